/- The walks of the model's greater and lesser one of two numbers. -/
import Derived.Test.YtkbcofgigfnfaaaNums
namespace Go.Proofs.Ytkbcofgigfnfaaa.most
open Go.RowKit own pp nums
set_option linter.unusedVariables false

end Go.Proofs.Ytkbcofgigfnfaaa.most
