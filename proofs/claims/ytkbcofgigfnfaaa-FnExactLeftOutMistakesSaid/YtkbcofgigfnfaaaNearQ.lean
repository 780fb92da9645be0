/- Places among which neighbors are looked for. -/
import Derived.Test.YtkbcofgigfnfaaaNearP
namespace Go.Proofs.Ytkbcofgigfnfaaa.nearq
open Go.RowKit own pp nums nearp squares
set_option linter.unusedVariables false
set_option linter.unusedSimpArgs false

/-- Places among which neighbors are looked for. -/
def Nbr (rows : List (List Int)) (ps xs : List Int) : Prop := rows.length ≤ 16 ∧ ps.length ≤ 16 ∧ ∀ j, j < ps.length → 0 ≤ ps.getD j 0 ∧ ps.getD j 0 < (rows.length : Int) ∧ pairB (rows.getD (ps.getD j 0).toNat []) xs = true
theorem near_nbr {rows : List (List Int)} {ps xs : List Int} (h : Nbr rows ps xs) (D : Int → Int) (k : Nat) (hk : k ≤ ps.length) (j : Nat) (hj : j < k) : 0 ≤ (nearTo D ps k).getD j 0 ∧ (nearTo D ps k).getD j 0 < (rows.length : Int) ∧ pairB (rows.getD ((nearTo D ps k).getD j 0).toNat []) xs = true := by
  have h1 : (nearTo D ps k).getD j 0 ∈ nearTo D ps k := getD_mem _ 0 j (by rw [nearTo_length]; exact hj)
  obtain ⟨i, hi, e⟩ := mem_getD ps 0 _ (nearTo_mem k hk h1)
  have h2 := h.2.2 i hi
  rw [e] at h2
  exact h2
end Go.Proofs.Ytkbcofgigfnfaaa.nearq
