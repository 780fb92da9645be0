/- Lists of each of some numbers once, and the places that they tell: plain lemmas, no condition. -/
import Derived.Test.YtncidajjeccbkaaHas
namespace Go.Proofs.Ytncidajjeccbkaa.permp
open Go.RowKit has
set_option linter.unusedVariables false
set_option linter.unusedSimpArgs false

/-- Each of 0, .., n - 1 is in the list, and it is no longer. -/
def permB (n : Nat) (to : List Int) : Bool := decide (to.length = n) && (List.range n).all fun i => hasB to (i : Int)
/-- In 0, .., n - 1 and not among those before. -/
def okAt (n : Nat) (to : List Int) (j : Nat) : Bool := (decide (0 ≤ to.getD j 0) && decide (to.getD j 0 < n)) && !(hasB (to.take j) (to.getD j 0))
def orderB (n : Nat) (to : List Int) : Bool := decide (to.length = n) && (List.range to.length).all (okAt n to)
theorem len0 {l : List Int} (h : l.length = 0) : l = [] := List.length_eq_zero_iff.1 h
theorem len1 {l : List Int} (h : l.length = 1) : ∃ x, l = [x] := by
  match l, h with
  | [x], _ => exact ⟨x, rfl⟩
theorem len2 {l : List Int} (h : l.length = 2) : ∃ x y, l = [x, y] := by
  match l, h with
  | [x, y], _ => exact ⟨x, y, rfl⟩
theorem len3 {l : List Int} (h : l.length = 3) : ∃ x y z, l = [x, y, z] := by
  match l, h with
  | [x, y, z], _ => exact ⟨x, y, z, rfl⟩
theorem len4 {l : List Int} (h : l.length = 4) : ∃ x y z u, l = [x, y, z, u] := by
  match l, h with
  | [x, y, z, u], _ => exact ⟨x, y, z, u, rfl⟩
theorem order_perm {n : Nat} (h4 : n ≤ 4) (to : List Int) : orderB n to = permB n to := by
  unfold orderB permB
  by_cases hl : to.length = n
  · rw [decide_eq_true hl, Bool.true_and, Bool.true_and]
    have h5 : n = 0 ∨ n = 1 ∨ n = 2 ∨ n = 3 ∨ n = 4 := by omega
    rcases h5 with rfl | rfl | rfl | rfl | rfl
    · rw [len0 hl]; rfl
    · obtain ⟨x, rfl⟩ := len1 hl
      rw [Bool.eq_iff_iff]
      simp [okAt, hasB, List.range_succ]
      omega
    · obtain ⟨x, y, rfl⟩ := len2 hl
      rw [Bool.eq_iff_iff]
      simp [okAt, hasB, List.range_succ]
      omega
    · obtain ⟨x, y, z, rfl⟩ := len3 hl
      rw [Bool.eq_iff_iff]
      simp [okAt, hasB, List.range_succ]
      omega
    · obtain ⟨x, y, z, u, rfl⟩ := len4 hl
      rw [Bool.eq_iff_iff]
      simp [okAt, hasB, List.range_succ]
      omega
  · rw [decide_eq_false hl]; rfl
def srcS (to : List Nat) (k : Nat) : Nat → Nat
  | 0 => 0
  | j + 1 => srcS to k j + k / 2 ^ j % 2 * 2 ^ to.getD j 0
def srcO (to : List Nat) (k : Nat) : Nat → Nat
  | 0 => 0
  | j + 1 => srcO to k j ||| k / 2 ^ j % 2 * 2 ^ to.getD j 0
theorem or4 : ∀ x y z u : Fin 4, x ≠ y ∧ x ≠ z ∧ x ≠ u ∧ y ≠ z ∧ y ≠ u ∧ z ≠ u → ∀ k : Fin 16, ∀ j : Fin 5, srcO [x.val, y.val, z.val, u.val] k.val j.val = srcS [x.val, y.val, z.val, u.val] k.val j.val ∧ srcS [x.val, y.val, z.val, u.val] k.val j.val < 16 := by decide +kernel
theorem or3 : ∀ x y z : Fin 3, x ≠ y ∧ x ≠ z ∧ y ≠ z → ∀ k : Fin 8, ∀ j : Fin 4, srcO [x.val, y.val, z.val] k.val j.val = srcS [x.val, y.val, z.val] k.val j.val ∧ srcS [x.val, y.val, z.val] k.val j.val < 8 := by decide +kernel
theorem or2 : ∀ x y : Fin 2, x ≠ y → ∀ k : Fin 4, ∀ j : Fin 3, srcO [x.val, y.val] k.val j.val = srcS [x.val, y.val] k.val j.val ∧ srcS [x.val, y.val] k.val j.val < 4 := by decide +kernel
theorem or1 : ∀ x : Fin 1, ∀ k : Fin 2, ∀ j : Fin 2, srcO [x.val] k.val j.val = srcS [x.val] k.val j.val ∧ srcS [x.val] k.val j.val < 2 := by decide +kernel
theorem perm_len {n : Nat} {to : List Int} (h : orderB n to = true) : to.length = n := by
  unfold orderB at h; simp at h; exact h.1
theorem ok_at {n : Nat} {to : List Int} (h : orderB n to = true) (j : Nat) (hj : j < to.length) : okAt n to j = true := by
  unfold orderB at h; simp at h; exact h.2 j hj
theorem ok_fit {n : Nat} {to : List Int} (h : orderB n to = true) (j : Nat) (hj : j < to.length) : 0 ≤ to.getD j 0 ∧ to.getD j 0 < n := by
  have := ok_at h j hj
  simp only [okAt, Bool.and_eq_true, decide_eq_true_eq] at this
  exact this.1
theorem nat_ne {a b : Int} {n : Nat} {h1 : a.toNat < n} {h2 : b.toNat < n} (h : a ≠ b) (ha : 0 ≤ a) (hb : 0 ≤ b) : (⟨a.toNat, h1⟩ : Fin n) ≠ ⟨b.toNat, h2⟩ := by
  intro e
  have := congrArg Fin.val e
  simp at this
  omega
def nats (to : List Int) : List Nat := to.map Int.toNat
theorem nats_getD (to : List Int) (j : Nat) : (nats to).getD j 0 = (to.getD j 0).toNat := by
  unfold nats
  rw [List.getD_eq_getElem?_getD, List.getD_eq_getElem?_getD, List.getElem?_map]
  cases to[j]? <;> rfl
theorem src_ok {n : Nat} (h4 : n ≤ 4) {to : List Int} (h : orderB n to = true) {k j : Nat} (hk : k < 2 ^ n) (hj : j ≤ n) : srcO (nats to) k j = srcS (nats to) k j ∧ srcS (nats to) k j < 2 ^ n := by
  have hl := perm_len h
  have ho := h
  unfold orderB at ho
  rw [decide_eq_true hl, Bool.true_and] at ho
  have h5 : n = 0 ∨ n = 1 ∨ n = 2 ∨ n = 3 ∨ n = 4 := by omega
  rcases h5 with rfl | rfl | rfl | rfl | rfl
  · obtain rfl : j = 0 := by omega
    exact ⟨rfl, Nat.one_pos⟩
  · obtain ⟨x, rfl⟩ := len1 hl
    simp [okAt, hasB, List.range_succ] at ho
    exact or1 ⟨x.toNat, by omega⟩ ⟨k, hk⟩ ⟨j, by omega⟩
  · obtain ⟨x, y, rfl⟩ := len2 hl
    simp [okAt, hasB, List.range_succ] at ho
    exact or2 ⟨x.toNat, by omega⟩ ⟨y.toNat, by omega⟩ (nat_ne (by omega) (by omega) (by omega)) ⟨k, hk⟩ ⟨j, by omega⟩
  · obtain ⟨x, y, z, rfl⟩ := len3 hl
    simp [okAt, hasB, List.range_succ] at ho
    exact or3 ⟨x.toNat, by omega⟩ ⟨y.toNat, by omega⟩ ⟨z.toNat, by omega⟩ ⟨nat_ne (by omega) (by omega) (by omega), nat_ne (by omega) (by omega) (by omega), nat_ne (by omega) (by omega) (by omega)⟩ ⟨k, hk⟩ ⟨j, by omega⟩
  · obtain ⟨x, y, z, u, rfl⟩ := len4 hl
    simp [okAt, hasB, List.range_succ] at ho
    exact or4 ⟨x.toNat, by omega⟩ ⟨y.toNat, by omega⟩ ⟨z.toNat, by omega⟩ ⟨u.toNat, by omega⟩ ⟨nat_ne (by omega) (by omega) (by omega), nat_ne (by omega) (by omega) (by omega), nat_ne (by omega) (by omega) (by omega), nat_ne (by omega) (by omega) (by omega), nat_ne (by omega) (by omega) (by omega), nat_ne (by omega) (by omega) (by omega)⟩ ⟨k, hk⟩ ⟨j, by omega⟩
/-- What was seen among the first j. -/
def seenTo (n : Nat) (to : List Int) (j : Nat) : List Value := (List.range n).map fun p : Nat => Value.bool (hasB (to.take j) (p : Int))
theorem seen_zero (n : Nat) (to : List Int) : seenTo n to 0 = List.replicate n (.bool false) := by
  apply List.ext_getElem (by simp [seenTo])
  intro i h1 h2
  simp [seenTo, hasB]
theorem take_hit {to : List Int} {j : Nat} (hj : j < to.length) (x : Int) : hasB (to.take (j + 1)) x = (hasB (to.take j) x || decide (to.getD j 0 = x)) := by
  unfold hasB
  have e : to.take (j + 1) = to.take j ++ [to.getD j 0] := by
    rw [List.take_add_one, List.getElem?_eq_getElem hj, List.getD_eq_getElem?_getD, List.getElem?_eq_getElem hj]; rfl
  rw [e, Bool.eq_iff_iff, List.contains_iff_mem, Bool.or_eq_true, List.contains_iff_mem, List.mem_append, List.mem_singleton, decide_eq_true_eq]
  exact ⟨fun h => h.imp id Eq.symm, fun h => h.imp id Eq.symm⟩
theorem seen_succ {n : Nat} {to : List Int} {j s : Nat} (hj : j < to.length) (hs : to.getD j 0 = (s : Int)) (hn : s < n) : (seenTo n to j).set s (.bool true) = seenTo n to (j + 1) := by
  apply List.ext_getElem (by simp [seenTo])
  intro i h1 h2
  have h3 : i < n := by simpa [seenTo] using h2
  rw [List.getElem_set]
  by_cases e : s = i
  · rw [if_pos e]
    subst e
    simp only [seenTo, List.getElem_map, List.getElem_range, take_hit hj, hs]
    simp
  · rw [if_neg e]
    simp only [seenTo, List.getElem_map, List.getElem_range, take_hit hj, hs]
    rw [decide_eq_false (by omega), Bool.or_false]
theorem seen_at {n : Nat} {to : List Int} {j s : Nat} (hn : s < n) : (seenTo n to j)[s]? = some (.bool (hasB (to.take j) (s : Int))) := by
  simp [seenTo, hn]
theorem order_ok {n : Nat} {to : List Int} (hl : to.length = n) (h : ∀ j, j < to.length → okAt n to j = true) : orderB n to = true := by
  unfold orderB
  rw [decide_eq_true hl, Bool.true_and, List.all_eq_true]
  intro j hj
  exact h j (List.mem_range.1 hj)
theorem order_no {n : Nat} {to : List Int} (j : Nat) (hj : j < to.length) (h : okAt n to j = false) : orderB n to = false := by
  cases hx : orderB n to
  · rfl
  · rw [ok_at hx j hj] at h; cases h
theorem order_len {n : Nat} {to : List Int} (h : to.length ≠ n) : orderB n to = false := by
  unfold orderB; rw [decide_eq_false h]; rfl
theorem perm_no {n : Nat} {to : List Int} (i : Nat) (hi : i < n) (h : hasB to (i : Int) = false) : permB n to = false := by
  cases hx : permB n to
  · rfl
  · unfold permB at hx
    simp at hx
    rw [hx.2 i hi] at h; cases h
theorem perm_has {n : Nat} {to : List Int} (h : permB n to = true) (i : Nat) (hi : i < n) : hasB to (i : Int) = true := by
  unfold permB at h; simp at h; exact h.2 i hi
theorem perm_ok {n : Nat} {to : List Int} (hl : to.length = n) (h : ∀ i, i < n → hasB to (i : Int) = true) : permB n to = true := by
  unfold permB; rw [decide_eq_true hl, Bool.true_and, List.all_eq_true]
  intro i hi
  exact h i (List.mem_range.1 hi)
end Go.Proofs.Ytncidajjeccbkaa.permp
