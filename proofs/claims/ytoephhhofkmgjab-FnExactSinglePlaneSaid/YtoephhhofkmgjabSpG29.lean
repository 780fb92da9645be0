/- Several texts in one. -/
import Derived.OwnWalk
import Derived.RangeFuncBox
import Derived.Test.YtoephhhofkmgjabSpG19
namespace Go.Proofs.Ytoephhhofkmgjab.sidesof
open Go.RowKit own pp nums samplesv samplest planes dots both sides
set_option linter.unusedVariables false

end Go.Proofs.Ytoephhhofkmgjab.sidesof
