/- Lists of each of 0, .., n - 1 once, of any length, and sums over them: plain lemmas, no condition. -/
import Derived.Test.YtobdapalllaceaaPermP
import Derived.Test.YtobdapalllaceaaPWins
namespace Go.Proofs.Ytobdapalllaceaa.permq
open has permp pw pv
set_option linter.unusedVariables false

theorem sub_len {α : Type} [BEq α] [LawfulBEq α] : ∀ (m l : List α), m.Nodup → (∀ x, x ∈ m → x ∈ l) → m.length ≤ l.length
  | [], l, _, _ => Nat.zero_le _
  | x :: m, l, hn, hs => by
    rw [List.nodup_cons] at hn
    have hx : x ∈ l := hs x (by simp)
    have ih := sub_len m (l.erase x) hn.2 (fun y hy => by
      have hne : y ≠ x := fun e => hn.1 (e ▸ hy)
      exact (List.mem_erase_of_ne hne).2 (hs y (by simp [hy])))
    rw [List.length_erase_of_mem hx] at ih
    have : 0 < l.length := List.length_pos_of_mem hx
    simp only [List.length_cons]
    omega
def ints (n : Nat) : List Int := (List.range n).map fun i : Nat => (i : Int)
theorem ints_length (n : Nat) : (ints n).length = n := by simp [ints]
theorem ints_mem (n : Nat) (x : Int) : x ∈ ints n ↔ 0 ≤ x ∧ x < n := by
  unfold ints
  rw [List.mem_map]
  constructor
  · rintro ⟨i, hi, rfl⟩
    have := List.mem_range.1 hi
    omega
  · rintro ⟨h0, h1⟩
    exact ⟨x.toNat, List.mem_range.2 (by omega), by omega⟩
theorem ints_nodup (n : Nat) : (ints n).Nodup := by
  unfold ints
  rw [List.Nodup, List.pairwise_map]
  exact (List.nodup_range (n := n)).imp (fun h e => h (by omega))
theorem order_nodup {n : Nat} {to : List Int} (h : orderB n to = true) : to.Nodup := by
  rw [List.Nodup, List.pairwise_iff_getElem]
  intro i j hi hj hij e
  have hk := ok_at h j hj
  unfold okAt at hk
  rw [Bool.and_eq_true] at hk
  have h2 := hk.2
  have h3 : hasB (to.take j) (to.getD j 0) = true := by
    refine hasB_at (k := i) (by rw [List.length_take]; omega) ?_
    rw [List.getD_eq_getElem?_getD, List.getElem?_take, if_pos hij, List.getElem?_eq_getElem hi, List.getD_eq_getElem?_getD, List.getElem?_eq_getElem hj]
    exact e
  rw [h3] at h2
  cases h2
theorem mem_has {zs : List Int} {x : Int} : hasB zs x = true ↔ x ∈ zs := by unfold hasB; rw [List.contains_iff_mem]
theorem order_mem {n : Nat} {to : List Int} (h : orderB n to = true) (x : Int) (hx : x ∈ to) : x ∈ ints n := by
  obtain ⟨j, hj, e⟩ := List.getElem_of_mem hx
  have := ok_fit h j hj
  rw [List.getD_eq_getElem?_getD, List.getElem?_eq_getElem hj] at this
  rw [ints_mem]
  simp only [Option.getD_some, e] at this
  exact this
/-- A list in which each number stands once has all of them. -/
theorem order_has {n : Nat} {to : List Int} (h : orderB n to = true) (i : Nat) (hi : i < n) : hasB to (i : Int) = true := by
  rw [mem_has]
  refine Classical.byContradiction fun hno => ?_
  have := sub_len to ((ints n).erase (i : Int)) (order_nodup h) (fun x hx => by
    have hne : x ≠ (i : Int) := fun e => hno (e ▸ hx)
    exact (List.mem_erase_of_ne hne).2 (order_mem h x hx))
  rw [List.length_erase_of_mem ((ints_mem n i).2 (by omega)), ints_length, perm_len h] at this
  omega
theorem perm_order {n : Nat} {to : List Int} (h : permB n to = true) : orderB n to = true := by
  have hl : to.length = n := by unfold permB at h; rw [Bool.and_eq_true, decide_eq_true_eq] at h; exact h.1
  have hall := fun i hi => perm_has h i hi
  refine order_ok hl (fun j hj => ?_)
  have key : ∀ x, x ∈ ints n → x ∈ to := fun x hx => by
    obtain ⟨h0, h1⟩ := (ints_mem n x).1 hx
    have := hall x.toNat (by omega)
    rw [mem_has, show ((x.toNat : Nat) : Int) = x by omega] at this
    exact this
  have hlt : ¬ (∀ x, x ∈ ints n → x ∈ to.eraseIdx j) := fun hs => by
    have := sub_len (ints n) (to.eraseIdx j) (ints_nodup n) hs
    rw [ints_length, List.length_eraseIdx, if_pos hj] at this
    omega
  have hgj : to.getD j 0 = to[j] := by rw [List.getD_eq_getElem?_getD, List.getElem?_eq_getElem hj]; rfl
  have hin : to.getD j 0 ∈ ints n := Classical.byContradiction fun hno => hlt fun x hx => by
    obtain ⟨i, hi, e⟩ := List.getElem_of_mem (key x hx)
    rw [List.mem_eraseIdx_iff_getElem]
    exact ⟨i, hi, fun e2 => hno (by subst e2; rw [hgj, e]; exact hx), e⟩
  have hno : hasB (to.take j) (to.getD j 0) = false := by
    cases hb : hasB (to.take j) (to.getD j 0)
    · rfl
    · exfalso
      rw [mem_has] at hb
      obtain ⟨i, hi, e⟩ := List.getElem_of_mem hb
      have hij : i < j := by rw [List.length_take] at hi; omega
      rw [List.getElem_take] at e
      refine hlt fun x hx => ?_
      rw [List.mem_eraseIdx_iff_getElem]
      obtain ⟨i2, hi2, e2⟩ := List.getElem_of_mem (key x hx)
      by_cases h2 : i2 = j
      · subst h2
        exact ⟨i, by omega, by omega, by rw [e, hgj]; exact e2⟩
      · exact ⟨i2, hi2, h2, e2⟩
  have hr := (ints_mem n _).1 hin
  unfold okAt
  rw [hno, decide_eq_true hr.1, decide_eq_true hr.2]
  rfl
theorem order_perm_any (n : Nat) (to : List Int) : orderB n to = permB n to := by
  rw [Bool.eq_iff_iff]
  exact ⟨fun h => perm_ok (perm_len h) (fun i hi => order_has h i hi), perm_order⟩
/-- Sums of numbers that are not less than 0 over lists that have all others. -/
def sumF (f : Int → Int) : List Int → Int
  | [] => 0
  | x :: l => f x + sumF f l
theorem sumF_erase (f : Int → Int) : ∀ (l : List Int) (x : Int), x ∈ l → sumF f l = f x + sumF f (l.erase x)
  | [], x, h => by cases h
  | y :: l, x, h => by
    by_cases e : y = x
    · subst e
      rw [List.erase_cons_head]; rfl
    · have h2 : x ∈ l := by
        rcases List.mem_cons.1 h with h3 | h3
        · exact absurd h3.symm e
        · exact h3
      have ih := sumF_erase f l x h2
      rw [List.erase_cons_tail (by simpa using e)]
      show f y + sumF f l = f x + (f y + sumF f (l.erase x))
      omega
theorem sumF_pos {f : Int → Int} (hf : ∀ x, 0 ≤ f x) (l : List Int) : 0 ≤ sumF f l := by
  induction l with
  | nil => exact Int.le_refl _
  | cons x l ih => have := hf x; show 0 ≤ f x + sumF f l; omega
theorem sumF_le {f : Int → Int} (hf : ∀ x, 0 ≤ f x) : ∀ (m l : List Int), m.Nodup → (∀ x, x ∈ m → x ∈ l) → sumF f m ≤ sumF f l
  | [], l, _, _ => sumF_pos hf l
  | x :: m, l, hn, hs => by
    rw [List.nodup_cons] at hn
    have hx : x ∈ l := hs x (by simp)
    have ih := sumF_le hf m (l.erase x) hn.2 (fun y hy => by
      have hne : y ≠ x := fun e => hn.1 (e ▸ hy)
      exact (List.mem_erase_of_ne hne).2 (hs y (by simp [hy])))
    rw [sumF_erase f l x hx]
    show f x + sumF f m ≤ _
    omega
theorem sumF_append (f : Int → Int) (l m : List Int) : sumF f (l ++ m) = sumF f l + sumF f m := by
  induction l with
  | nil => show sumF f m = 0 + _; omega
  | cons x l ih => show f x + sumF f (l ++ m) = f x + sumF f l + sumF f m; omega
theorem take_succ (l : List Int) (k : Nat) (h : k < l.length) : l.take (k + 1) = l.take k ++ [l.getD k 0] := by
  rw [List.take_succ_eq_append_getElem h, List.getD_eq_getElem?_getD, List.getElem?_eq_getElem h]
  rfl
def wf (ws : List Int) (x : Int) : Int := max 0 (ws.getD x.toNat 0)
theorem sumP_F {ws zs : List Int} (hw : ∀ x, x ∈ zs → 0 ≤ ws.getD x.toNat 0) (k : Nat) (hk : k ≤ zs.length) : sumP ws zs k = sumF (wf ws) (zs.take k) := by
  induction k with
  | zero => rfl
  | succ k ih =>
    rw [take_succ zs k (by omega), sumF_append, ← ih (by omega)]
    show sumP ws zs k + ws.getD (zs.getD k 0).toNat 0 = sumP ws zs k + (wf ws (zs.getD k 0) + 0)
    have := hw (zs.getD k 0) (pp.getD_mem zs 0 k (by omega))
    unfold wf
    omega
theorem sumTo_F {ws : List Int} (hw : ∀ j, j < ws.length → 0 ≤ ws.getD j 0) (k : Nat) (hk : k ≤ ws.length) : sumTo ws k = sumF (wf ws) (ints k) := by
  induction k with
  | zero => rfl
  | succ k ih =>
    have e : ints (k + 1) = ints k ++ [(k : Int)] := by simp [ints, List.range_succ]
    rw [e, sumF_append, ← ih (by omega)]
    show sumTo ws k + ws.getD k 0 = sumTo ws k + (wf ws (k : Int) + 0)
    have := hw k (by omega)
    unfold wf
    rw [Int.toNat_natCast]
    omega
/-- All voters in an order have the whole weight. -/
theorem order_sum {ws zs : List Int} (hw : ∀ j, j < ws.length → 0 ≤ ws.getD j 0) (h : orderB ws.length zs = true) : sumZ ws ≤ sumP ws zs zs.length := by
  rw [sumP_F (fun x hx => hw _ (by have := (ints_mem _ _).1 (order_mem h x hx); omega)) _ (Nat.le_refl _), List.take_length]
  unfold sumZ
  rw [sumTo_F hw _ (Nat.le_refl _)]
  refine sumF_le (fun x => by unfold wf; omega) _ _ (ints_nodup _) (fun x hx => ?_)
  obtain ⟨h0, h1⟩ := (ints_mem _ x).1 hx
  have := order_has h x.toNat (by omega)
  rw [mem_has, show ((x.toNat : Nat) : Int) = x by omega] at this
  exact this
/-- The first place from k on, of at most f, at which p holds. -/
def first (p : Nat → Bool) : Nat → Nat → Nat
  | 0, k => k
  | f + 1, k => if p k = true then k else first p f (k + 1)
theorem first_eq {p : Nat → Bool} : ∀ (f i k : Nat), i ≤ k → k ≤ i + f → (∀ j, i ≤ j → j < k → p j = false) → p k = true → first p f i = k
  | 0, i, k, h1, h2, _, _ => by show i = k; omega
  | f + 1, i, k, h1, h2, h3, h4 => by
    unfold first
    by_cases e : i = k
    · subst e
      rw [if_pos h4]
    · rw [h3 i (Nat.le_refl _) (by omega)]
      simp only [Bool.false_eq_true, if_false]
      exact first_eq f (i + 1) k (by omega) (by omega) (fun j hj => h3 j (by omega)) h4
/-- The pivotal voter of an order. -/
def pivP (ws : List Int) (q : Int) (zs : List Int) (k : Nat) : Bool := decide (q ≤ sumP ws zs (k + 1))
def pivot (ws : List Int) (q : Int) (zs : List Int) : Int := zs.getD (first (pivP ws q zs) zs.length 0) 0
theorem pivot_at {ws : List Int} {q : Int} {zs : List Int} {k : Nat} (hk : k < zs.length) (h : ∀ j, j < k → sumP ws zs (j + 1) < q) (h2 : q ≤ sumP ws zs (k + 1)) : pivot ws q zs = zs.getD k 0 := by
  unfold pivot
  rw [first_eq zs.length 0 k (Nat.zero_le _) (by omega) (fun j _ hj => by unfold pivP; rw [decide_eq_false (by have := h j hj; omega)]) (by unfold pivP; exact decide_eq_true h2)]
end Go.Proofs.Ytobdapalllaceaa.permq
