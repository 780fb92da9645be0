/- The program's side and mistakes of a decider, whatever it is. -/
import Derived.Test.YtoephhhofkmgjaaWhere
import Derived.Test.YtoephhhofkmgjaaSamplesT
import Derived.Test.YtoephhhofkmgjaaSidesOf
import Derived.Outline
import Derived.Shelf.Abstract
namespace Go.Proofs.Ytoephhhofkmgjaa.dec
open Go.RowKit own pp nums pwh samplesv samplest sides
set_option linter.unusedVariables false
set_option linter.unusedSimpArgs false

end Go.Proofs.Ytoephhhofkmgjaa.dec
