/- The walks of the model's and the program's tests of planes, of products and of sides. -/
import Derived.Test.YtncidajjeccbkaaNums
import Derived.Deep.QuietTactic
import Derived.Deep.RegionHeld3
import Derived.BigQuiet
import Derived.IntWalk
namespace Go.Proofs.Ytncidajjeccbkaa.planes
open Go.RowKit own pp nums
set_option linter.unusedVariables false

end Go.Proofs.Ytncidajjeccbkaa.planes
