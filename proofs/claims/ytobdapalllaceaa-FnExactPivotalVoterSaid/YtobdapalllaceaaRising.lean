/- The walks of the tests whether a list is strictly ascending within 0..n-1: the model's and the program's. -/
import Derived.Test.YtobdapalllaceaaSamplesV
namespace Go.Proofs.Ytobdapalllaceaa.rising
open Go.RowKit own pp nums samplesv
set_option linter.unusedVariables false
set_option linter.unusedSimpArgs false

/-- At a place: in 0..n-1 and more than the number before it. -/
def riseAt (n : Int) (zs : List Int) (k : Nat) : Bool := (decide (0 ≤ zs.getD k 0) && decide (zs.getD k 0 ≤ n - 1)) && (decide (k = 0) || decide (zs.getD (k - 1) 0 < zs.getD k 0))
def risesB (n : Int) (zs : List Int) : Bool := (List.range zs.length).all (riseAt n zs)
theorem rises_all {n : Int} {zs : List Int} (h : ∀ k, k < zs.length → riseAt n zs k = true) : risesB n zs = true := by
  unfold risesB
  rw [List.all_eq_true]
  intro k hk
  exact h k (List.mem_range.1 hk)
theorem rises_at {n : Int} {zs : List Int} (h : risesB n zs = true) (k : Nat) (hk : k < zs.length) : riseAt n zs k = true := by
  unfold risesB at h
  rw [List.all_eq_true] at h
  exact h k (List.mem_range.2 hk)
theorem rises_no {n : Int} {zs : List Int} (k : Nat) (hk : k < zs.length) (h : riseAt n zs k = false) : risesB n zs = false := by
  cases hx : risesB n zs
  · rfl
  · rw [rises_at hx k hk] at h; cases h

end Go.Proofs.Ytobdapalllaceaa.rising
