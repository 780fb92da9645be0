/- The walks of the model's and the program's PlaneTable. -/
import Derived.Test.YtobdapalllaceaaTables
namespace Go.Proofs.Ytobdapalllaceaa.planetable
open Go.RowKit own pp nums planes dots bitw tables
set_option linter.unusedVariables false
set_option linter.unusedSimpArgs false
attribute [local go_sem ↓] Go.wp_at_zero Go.wp_at_succ

/-- The table of a plane. -/
def tab (ws : List Int) (b : Int) : List Int := tabTo ws b ws.length (2 ^ ws.length)
theorem tab_at {ws : List Int} {b : Int} {n : Nat} (h : ws.length = n) : tab ws b = tabTo ws b n (2 ^ n) := by unfold tab; rw [h]
theorem len_cases {ws : List Int} {b : Int} (h : planeB ws b = true) : ws.length = 1 ∨ ws.length = 2 ∨ ws.length = 3 ∨ ws.length = 4 := by
  obtain ⟨h1, h2, _, _⟩ := (planeB_iff _ _).1 h
  omega
end Go.Proofs.Ytobdapalllaceaa.planetable
