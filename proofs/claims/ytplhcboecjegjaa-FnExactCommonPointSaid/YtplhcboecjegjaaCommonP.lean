/- The common point, plain, and its facts. -/
import Derived.Test.YtplhcboecjegjaaCutW
import Derived.Test.YtplhcboecjegjaaCert
namespace Go.Proofs.Ytplhcboecjegjaa.commonp
open Go.RowKit own pp nums own1 samplesv samplest fill range sums same cert gcdw cutw
set_option linter.unusedVariables false
attribute [local go_sem ↓] Go.wp_at_zero Go.wp_at_succ
set_option linter.unusedSimpArgs false

/-- The j-th coordinate of the common point, and the first k. -/
def sumC (rows : List (List Int)) (zs ls : List Int) : List Int := sumsTo rows zs ls 1 (rows.getD 0 []).length rows.length
def ptsTo (S : List Int) (k : Nat) : List (Int × Int) := (List.range k).map fun j => cutP (S.getD (j + 1) 0) (S.getD 0 0).toNat
def pointC (rows : List (List Int)) (zs ls : List Int) : List (Int × Int) := ptsTo (sumC rows zs ls) (rows.getD 0 []).length
theorem pts_length (S : List Int) (k : Nat) : (ptsTo S k).length = k := by simp [ptsTo]
theorem pts_succ (S : List Int) (k : Nat) : ptsTo S (k + 1) = ptsTo S k ++ [cutP (S.getD (k + 1) 0) (S.getD 0 0).toNat] := by simp [ptsTo, List.range_succ]
theorem pts_at (S : List Int) (k j : Nat) (h : j < k) : (ptsTo S k).getD j (0, 0) = cutP (S.getD (j + 1) 0) (S.getD 0 0).toNat := by
  rw [List.getD_eq_getElem?_getD]; simp [ptsTo, h]
theorem sum_nn {rows : List (List Int)} {zs ls : List Int} (k : Nat) (hl : ∀ i, i < k → 0 ≤ ls.getD i 0) (hz : ∀ i, i < k → zs.getD i 0 = 1 ∨ zs.getD i 0 = -1) :
    0 ≤ sumAt rows zs ls 1 k 0 ∧ 0 ≤ sumAt rows zs ls (-1) k 0 ∧ ∀ j, j < k → ls.getD j 0 ≤ sumAt rows zs ls 1 k 0 + sumAt rows zs ls (-1) k 0 := by
  induction k with
  | zero => simp [sumAt]
  | succ k ih =>
    obtain ⟨h1, h2, h3⟩ := ih (fun i hi => hl i (by omega)) (fun i hi => hz i (by omega))
    have h4 := hl k (by omega)
    rcases hz k (by omega) with e | e
    · rw [sum_hit e 0, co_zero, Int.mul_one, show sumAt rows zs ls (-1) (k + 1) 0 = sumAt rows zs ls (-1) k 0 from if_neg (by rw [e]; decide)]
      refine ⟨by omega, h2, fun j hj => ?_⟩
      by_cases hjk : j < k
      · have := h3 j hjk; omega
      · obtain rfl : j = k := by omega
        omega
    · rw [sum_hit e 0, co_zero, Int.mul_one, show sumAt rows zs ls 1 (k + 1) 0 = sumAt rows zs ls 1 k 0 from if_neg (by rw [e]; decide)]
      refine ⟨h1, by omega, fun j hj => ?_⟩
      by_cases hjk : j < k
      · have := h3 j hjk; omega
      · obtain rfl : j = k := by omega
        omega
/-- What a certificate's sums are. -/
structure CF (rows : List (List Int)) (zs ls : List Int) : Prop where
  sf : SF rows zs ls (rows.getD 0 []).length
  len : (sumC rows zs ls).length = (rows.getD 0 []).length + 1
  pos : 0 < (sumC rows zs ls).getD 0 0
  bd : ∀ j, j < (rows.getD 0 []).length + 1 → -1000000000000 ≤ (sumC rows zs ls).getD j 0 ∧ (sumC rows zs ls).getD j 0 ≤ 1000000000000
theorem CF.of {rows : List (List Int)} {zs ls : List Int} (h : sampleB rows zs = true) (hc : ceB rows zs ls = true) : CF rows zs ls := by
  unfold ceB at hc
  simp only [Bool.and_eq_true, decide_eq_true_eq] at hc
  obtain ⟨h1, h2, h3, h4⟩ := hc
  have hp := h3
  rw [pos_iff, decide_eq_true_eq, max_pos] at hp
  obtain ⟨i, hi, hpi⟩ := hp
  have hS := SF.of h (by omega) h2 h1
  have hb : ∀ j, j < (rows.getD 0 []).length + 1 → -1000000000000 ≤ (sumC rows zs ls).getD j 0 ∧ (sumC rows zs ls).getD j 0 ≤ 1000000000000 := by
    intro j hj
    unfold sumC
    rw [sums_getD _ _ _ _ _ _ _ hj]
    have := sum_bd rows zs ls 1 j rows.length (fun i hi => hS.lb i hi) (fun i hi => hS.co i j hi hj)
    have := hS.n16
    omega
  have hz : ∀ i, i < rows.length → zs.getD i 0 = 1 ∨ zs.getD i 0 = -1 := by
    intro i hi
    have := all_at _ 0 zs ((sampleB_iff _ _).1 h).2.2.1 i (by rw [hS.zl]; exact hi)
    unfold labelB at this
    simp only [Bool.or_eq_true, decide_eq_true_eq] at this
    omega
  obtain ⟨q1, q2, q3⟩ := sum_nn (rows := rows) rows.length (fun i hi => (hS.lb i hi).1) hz
  have q4 := q3 i (by omega)
  have e0 : sumAt rows zs ls 1 rows.length 0 = sumAt rows zs ls (-1) rows.length 0 := by
    have := congrArg (fun l => l.getD 0 0) h4
    replace this : (sumsTo rows zs ls 1 (rows.getD 0 []).length rows.length).getD 0 0 = (sumsTo rows zs ls (-1) (rows.getD 0 []).length rows.length).getD 0 0 := this
    rw [sums_getD _ _ _ _ _ _ _ (by omega), sums_getD _ _ _ _ _ _ _ (by omega)] at this
    exact this
  refine ⟨hS, sums_length .., ?_, hb⟩
  unfold sumC
  rw [sums_getD _ _ _ _ _ _ _ (by omega)]
  omega
end Go.Proofs.Ytplhcboecjegjaa.commonp
