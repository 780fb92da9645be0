/- The walks of the model's and the program's test of a sample. -/
import Derived.Test.YtchlkcmgonbcjaaPlanes
import Derived.Test.YtchlkcmgonbcjaaGrid
namespace Go.Proofs.Ytchlkcmgonbcjaa.samplesv
open Go.RowKit own pp nums
set_option linter.unusedVariables false

theorem says_quiet {P : Program} {f : FuncId} {args : Array Value} {w : World} {n : Nat} {ok : Bool} (h : Calls P f args (w.drewN n) (Says ok (w.drewN n))) :
    Calls P f args (w.drewN n) fun e w'' => e = .returned (.bool ok) ∧ ∃ m, w'' = w.drewN m :=
  h.mono fun _ _ ⟨he, hw⟩ => ⟨he, n, hw.symm⟩


/-- A row is a point as long as the first one. -/
def rowB (rows : List (List Int)) (r : List Int) : Bool := pointB r && decide (r.length = (rows.getD 0 []).length)
theorem rowsB_eq (rows : List (List Int)) : rowsB rows = rows.all (rowB rows) := rfl

end Go.Proofs.Ytchlkcmgonbcjaa.samplesv
