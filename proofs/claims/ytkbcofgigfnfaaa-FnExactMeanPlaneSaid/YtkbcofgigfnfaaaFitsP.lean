/- Points for a sample: plain lemmas. -/
import Derived.Test.YtkbcofgigfnfaaaPlainPlane
namespace Go.Proofs.Ytkbcofgigfnfaaa.fitsp
open pp
set_option linter.unusedVariables false
set_option linter.unusedSimpArgs false

theorem len_beq (a b : Nat) : ((a : Int) == (b : Int)) = decide (a = b) := by
  by_cases h : a = b
  · subst h; simp
  · rw [show decide (a = b) = false by simpa using h]; simp; omega
theorem len_beq0 (a : Nat) (h : ¬ a = 0) : ((a : Int) == 0) = false := by simp; omega
/-- A point for a sample: with as many numbers as its points. -/
def fitsB (rows : List (List Int)) (xs : List Int) : Bool := pointB xs && (decide (rows.length = 0) || decide (xs.length = (rows.getD 0 []).length))
theorem fitsB_iff (rows : List (List Int)) (xs : List Int) : fitsB rows xs = true ↔ pointB xs = true ∧ (rows.length = 0 ∨ xs.length = (rows.getD 0 []).length) := by simp [fitsB]
theorem sample_at {rows : List (List Int)} {zs : List Int} (h : sampleB rows zs = true) (k : Nat) (hk : k < rows.length) : pointB (rows.getD k []) = true ∧ (rows.getD k []).length = (rows.getD 0 []).length ∧ (zs.getD k 0 = 1 ∨ zs.getD k 0 = -1) := by
  have h1 := (sampleB_iff _ _).1 h
  have h2 := all_at _ [] rows h1.2.2.2 k hk
  have h3 := all_at _ 0 zs h1.2.2.1 k (by omega)
  simp at h2
  exact ⟨h2.1, h2.2, (labelB_iff _).1 h3⟩
end Go.Proofs.Ytkbcofgigfnfaaa.fitsp
