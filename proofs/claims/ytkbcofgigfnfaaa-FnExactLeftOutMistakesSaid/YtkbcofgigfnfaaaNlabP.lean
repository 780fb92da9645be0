/- Labels of neighbors: plain lemmas. -/
import Derived.Test.YtkbcofgigfnfaaaNearQ
namespace Go.Proofs.Ytkbcofgigfnfaaa.nlabp
open Go.RowKit own pp nums nearp nearq
set_option linter.unusedVariables false
set_option linter.unusedSimpArgs false

/-- Labels are small numbers. -/
def Lab (zs : List Int) : Prop := ∀ x, -1 ≤ zs.getD x 0 ∧ zs.getD x 0 ≤ 1
theorem lab_of {zs : List Int} (h : labelsB zs = true) : Lab zs := by
  intro x
  by_cases hx : x < zs.length
  · have := (labelB_iff _).1 (all_at _ 0 zs h x hx)
    omega
  · rw [List.getD_eq_getElem?_getD, List.getElem?_eq_none (by omega)]
    simp
theorem lsum_take (zs L : List Int) (k j : Nat) (hj : j ≤ k) : lsum zs (L.take k) j = lsum zs L j := by
  induction j with
  | zero => rfl
  | succ j ih =>
    show lsum zs (L.take k) j + zs.getD ((L.take k).getD j 0).toNat 0 = lsum zs L j + zs.getD (L.getD j 0).toNat 0
    rw [ih (by omega)]
    congr 2
    simp [List.getD_eq_getElem?_getD, List.getElem?_take, show j < k by omega]
theorem near_at {rows : List (List Int)} {ps xs : List Int} (h : Nbr rows ps xs) (D : Int → Int) (j : Nat) (hj : j < ps.length) : 0 ≤ (near D ps).getD j 0 ∧ (near D ps).getD j 0 < (rows.length : Int) := by
  have h1 : (near D ps).getD j 0 ∈ near D ps := getD_mem _ 0 j (by rw [show (near D ps).length = ps.length from nearTo_length _ _ _]; exact hj)
  obtain ⟨i, hi, e⟩ := mem_getD ps 0 _ (nearTo_mem ps.length (Nat.le_refl _) h1)
  have h2 := h.2.2 i hi
  rw [e] at h2
  exact ⟨h2.1, h2.2.1⟩
end Go.Proofs.Ytkbcofgigfnfaaa.nlabp
