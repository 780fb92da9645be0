/- The walks of the model's and the program's SidesOf. -/
import Derived.Test.YtkbcofgigfnfaaaSides
import Derived.OwnWalk
import Derived.RangeFuncBox
namespace Go.Proofs.Ytkbcofgigfnfaaa.sidesof
open Go.RowKit own pp nums samplesv samplest planes dots both sides
set_option linter.unusedVariables false

end Go.Proofs.Ytkbcofgigfnfaaa.sidesof
