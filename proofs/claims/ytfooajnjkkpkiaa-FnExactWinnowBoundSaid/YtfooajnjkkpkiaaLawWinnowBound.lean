/- The law FnExactWinnowBound: its walk, from the walks of the model's and the program's function. -/
import Derived.Test.YtfooajnjkkpkiaaFnExactWinnowBoundW
import Derived.Test.YtfooajnjkkpkiaaWinBound
import Derived.Test.YtfooajnjkkpkiaaGrid
namespace Go.Proofs.Ytfooajnjkkpkiaa.fnExactWinnowBoundl
open Go.RowKit own pp
set_option linter.unusedVariables false

theorem law (n0 : Int) (n1 : Int) (w : World) (hn0 : (Lit.int .i64 n0).wf = true) (hn1 : (Lit.int .i64 n1).wf = true) :
    Calls Try.prog 17 #[.int .i64 n0, .int .i64 n1] w fun e w' => e = .returned (.bool true) ∧ Below w.heap.size w w' := by
  cases hk : winbound.wbB n0 n1
  · exact fnExactWinnowBoundw.law_small n0 n1 0 false w    (Lib.hid fun w => winbound.spec_no _ _ w hk) (Lib.hid fun w => winbound.impl_no _ _ w hk)
  · exact fnExactWinnowBoundw.law_small n0 n1 (winbound.wb n0 n1) true w    (Lib.hid fun w => winbound.spec_yes _ _ w hk) (Lib.hid fun w => winbound.impl_yes _ _ w hk)
end Go.Proofs.Ytfooajnjkkpkiaa.fnExactWinnowBoundl
