/- A play by halving: plain; no condition. -/
import Derived.Test.YtncidajjeccbkaaAtW
import Derived.Test.YtncidajjeccbkaaDiff
namespace Go.Proofs.Ytncidajjeccbkaa.halvp
open Go.RowKit own pp cls atw permp diffw has
set_option linter.unusedVariables false
set_option linter.unusedSimpArgs false

/-- A hypothesis that agrees with what was told at the first i places. -/
def verB (rows : List (List Int)) (t : Nat) (order : List Int) (i j : Nat) : Bool := atw.hasB rows (order.take i) (atL (rows.getD t []) (order.take i)) j
def vsel (rows : List (List Int)) (t : Nat) (order : List Int) (i : Nat) : List Nat := (List.range rows.length).filter (verB rows t order i)
theorem vsel_zero (rows : List (List Int)) (t : Nat) (order : List Int) : vsel rows t order 0 = List.range rows.length := by
  unfold vsel
  refine List.filter_eq_self.2 fun j _ => ?_
  unfold verB atw.hasB
  rw [List.take_zero]; simp [atL]
theorem at_snoc (row set : List Int) (z : Int) : atL row (set ++ [z]) = atL row set ++ [row.getD z.toNat 0] := by unfold atL; rw [List.map_append]; rfl
theorem snoc_eq {l m : List Int} {x y : Int} : decide (l ++ [x] = m ++ [y]) = (decide (l = m) && (x == y)) := by
  by_cases h : l = m
  · subst h
    rw [decide_eq_true rfl, Bool.true_and]
    by_cases e : x = y
    · subst e; simp
    · rw [show (x == y) = false from beq_eq_false_iff_ne.2 e]
      exact decide_eq_false fun h => e (by simpa using h)
  · rw [decide_eq_false h, Bool.false_and]
    refine decide_eq_false fun e => h ?_
    have hl : l.length = m.length := by have := congrArg List.length e; simpa using this
    exact (List.append_inj e hl).1
theorem vsel_succ (rows : List (List Int)) (t : Nat) (order : List Int) (i : Nat) (hi : i < order.length) : vsel rows t order (i + 1) = (vsel rows t order i).filter fun j => (rows.getD j []).getD (order.getD i 0).toNat 0 == (rows.getD t []).getD (order.getD i 0).toNat 0 := by
  unfold vsel
  rw [List.filter_filter]
  refine List.filter_congr fun j _ => ?_
  unfold verB atw.hasB
  have e : order.take (i + 1) = order.take i ++ [order.getD i 0] := by
    rw [List.take_succ_eq_append_getElem hi, List.getD_eq_getElem?_getD, List.getElem?_eq_getElem hi]; rfl
  rw [e, at_snoc, at_snoc, snoc_eq, Bool.and_comm]
theorem vsel_lt {rows : List (List Int)} {t : Nat} {order : List Int} {i j : Nat} (h : j ∈ vsel rows t order i) : j < rows.length := List.mem_range.1 (List.mem_filter.1 h).1
theorem vsel_length (rows : List (List Int)) (t : Nat) (order : List Int) (i : Nat) : (vsel rows t order i).length ≤ rows.length := by
  unfold vsel
  have := List.length_filter_le (verB rows t order i) (List.range rows.length)
  simpa using this
/-- The sum of the labels at a place of the first k of some hypotheses. -/
def sumTo (rows : List (List Int)) (sel : List Nat) (x : Nat) : Nat → Int
  | 0 => 0
  | k + 1 => sumTo rows sel x k + (rows.getD (sel.getD k 0) []).getD x 0
theorem sum_bd {rows : List (List Int)} {sel : List Nat} {x : Nat} (h : ∀ j, j ∈ sel → (rows.getD j []).getD x 0 = 1 ∨ (rows.getD j []).getD x 0 = -1) : ∀ k, k ≤ sel.length → -(k : Int) ≤ sumTo rows sel x k ∧ sumTo rows sel x k ≤ k
  | 0, _ => by simp [sumTo]
  | k + 1, hk => by
    have ih := sum_bd h k (by omega)
    have := h _ (getD_mem sel 0 k (by omega))
    rw [sumTo]
    omega
/-- The label is said wrongly. -/
def wrongB (rows : List (List Int)) (t : Nat) (order : List Int) (i : Nat) : Bool := decide (0 ≤ sumTo rows (vsel rows t order i) (order.getD i 0).toNat (vsel rows t order i).length) != ((rows.getD t []).getD (order.getD i 0).toNat 0 == 1)
def playTo (rows : List (List Int)) (t : Nat) (order : List Int) : Nat → List Int
  | 0 => []
  | k + 1 => if wrongB rows t order k = true then playTo rows t order k ++ [order.getD k 0] else playTo rows t order k
theorem play_length (rows : List (List Int)) (t : Nat) (order : List Int) : ∀ k, (playTo rows t order k).length ≤ k
  | 0 => Nat.le_refl _
  | k + 1 => by
    have := play_length rows t order k
    rw [playTo]
    split
    · rw [List.length_append]; simp; omega
    · omega
theorem ok_iff {m : Nat} {order : List Int} {i : Nat} : okAt m order i = ((decide (0 ≤ order.getD i 0) && decide (order.getD i 0 ≤ (m : Int) - 1)) && !(has.hasB (order.take i) (order.getD i 0))) := by
  unfold okAt
  congr 2
  rw [decide_eq_decide]; omega
theorem diff_inside {m : Nat} {order : List Int} (h : diffB m order = true) : Inside m order := fun i hi => by
  have := diff_at h i hi
  unfold okAt at this
  simp only [Bool.and_eq_true, decide_eq_true_eq] at this
  exact this.1
theorem inside_take {m : Nat} {order : List Int} (h : Inside m order) (i : Nat) : Inside m (order.take i) := fun j hj => by
  rw [List.length_take] at hj
  have := h j (by omega)
  rw [List.getD_eq_getElem?_getD, List.getElem?_take, if_pos (by omega), ← List.getD_eq_getElem?_getD]
  exact this
theorem reads_take {w : World} {a : Option Addr} {zs : List Int} (h : ints.Reads .i64 w a zs) (i : Nat) : ints.Reads .i64 w a (zs.take i) := by
  rcases h with rfl | ⟨b, off, e, hb, hc⟩
  · exact .inl (by simp)
  · refine .inr ⟨b, off, e, hb, fun j hj => ?_⟩
    rw [List.length_take] at hj
    rw [hc j (by omega), List.getD_eq_getElem?_getD, List.getD_eq_getElem?_getD, List.getElem?_take, if_pos (by omega)]
theorem diff_len {m : Nat} {order : List Int} (h : diffB m order = true) : order.length ≤ m := by
  have hnd : order.Nodup := by
    rw [List.Nodup, List.pairwise_iff_getElem]
    intro i j hi hj hij e
    have hk := diff_at h j hj
    unfold okAt at hk
    rw [Bool.and_eq_true] at hk
    have h2 := hk.2
    have h3 : has.hasB (order.take j) (order.getD j 0) = true := by
      refine hasB_at (k := i) (by rw [List.length_take]; omega) ?_
      rw [List.getD_eq_getElem?_getD, List.getElem?_take, if_pos hij, List.getElem?_eq_getElem hi, List.getD_eq_getElem?_getD, List.getElem?_eq_getElem hj]
      exact e
    rw [h3] at h2
    cases h2
  have hin := diff_inside h
  have key : ∀ (n : Nat) (l : List Int), l.Nodup → (∀ z ∈ l, 0 ≤ z ∧ z < (n : Int)) → l.length ≤ n := by
    intro n
    induction n with
    | zero =>
      intro l _ hl
      cases l with
      | nil => exact Nat.le_refl _
      | cons z l => have := hl z (by simp); omega
    | succ n ih =>
      intro l hn hl
      have h1 := ih (l.erase (n : Int)) (hn.erase _) (fun z hz => by
        have hz1 := hl z (List.mem_of_mem_erase hz)
        have hz2 : z ≠ (n : Int) := fun e => by
          subst e
          exact (List.Nodup.not_mem_erase hn) hz
        omega)
      have h2 := List.length_erase (a := (n : Int)) (l := l)
      split at h2 <;> omega
  exact key m order hnd (fun z hz => by
    obtain ⟨k, hk, rfl⟩ := mem_getD order 0 z hz
    exact hin k hk)
end Go.Proofs.Ytncidajjeccbkaa.halvp
