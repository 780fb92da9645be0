/- The walks of the model's and the program's functions on a plane and a point. -/
import Derived.Test.YtoephhhofkmgjaaDots
namespace Go.Proofs.Ytoephhhofkmgjaa.ones
open Go.RowKit own pp nums planes dots
set_option linter.unusedVariables false

end Go.Proofs.Ytoephhhofkmgjaa.ones
