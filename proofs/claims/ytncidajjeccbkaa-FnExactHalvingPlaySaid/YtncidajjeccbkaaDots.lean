/- The walks of the model's and the program's products and sides. -/
import Derived.Test.YtncidajjeccbkaaPlanes
namespace Go.Proofs.Ytncidajjeccbkaa.dots
open Go.RowKit own pp nums planes
set_option linter.unusedVariables false

/-- It returns a number, and draws alone. -/
def Tells (n : Int) (w : World) (e : Ending) (w' : World) : Prop := e = .returned (.int .i64 n) ∧ ∃ m, w' = w.drewN m

theorem drewN_all (w : World) : w = w.drewN 0 := rfl

end Go.Proofs.Ytncidajjeccbkaa.dots
