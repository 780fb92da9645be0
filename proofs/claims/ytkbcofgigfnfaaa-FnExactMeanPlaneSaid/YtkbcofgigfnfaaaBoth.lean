/- The walks of the model's and the program's test of a sample and a plane that suits it. -/
import Derived.Test.YtkbcofgigfnfaaaSamplesT
import Derived.Test.YtkbcofgigfnfaaaDots
import Derived.Deep.RegionWith
namespace Go.Proofs.Ytkbcofgigfnfaaa.both
open Go.RowKit own pp nums samplesv samplest planes
set_option linter.unusedVariables false
set_option linter.unusedSimpArgs false

/-- A sample and a plane that suits it. -/
def bothB (rows : List (List Int)) (zs : List Int) (ws : List Int) (b : Int) : Bool := sampleB rows zs && planeB ws b && (decide (rows.length = 0) || decide ((rows.getD 0 []).length = ws.length))
theorem bothB_iff (rows : List (List Int)) (zs : List Int) (ws : List Int) (b : Int) : bothB rows zs ws b = true ↔ sampleB rows zs = true ∧ planeB ws b = true ∧ (rows.length = 0 ∨ (rows.getD 0 []).length = ws.length) := by simp [bothB, and_assoc]

end Go.Proofs.Ytkbcofgigfnfaaa.both
