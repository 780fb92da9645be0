/- The law FnExactSauerBound: its walk, from the walks of the model's and the program's function. -/
import Derived.Test.YtncidajjeccbkaaFnExactSauerBoundW
import Derived.Test.YtncidajjeccbkaaSauer
import Derived.Test.YtncidajjeccbkaaGrid
namespace Go.Proofs.Ytncidajjeccbkaa.fnExactSauerBoundl
open Go.RowKit own pp
set_option linter.unusedVariables false

theorem law (n0 : Int) (n1 : Int) (w : World) (hn0 : (Lit.int .i64 n0).wf = true) (hn1 : (Lit.int .i64 n1).wf = true) :
    Calls Try.prog 9 #[.int .i64 n0, .int .i64 n1] w fun e w' => e = .returned (.bool true) ∧ Below w.heap.size w w' := by
  cases hk : sauer.sbB n0 n1
  · exact fnExactSauerBoundw.law_small n0 n1 0 false w    (Lib.hid fun w => sauer.spec_no _ _ w hk) (Lib.hid fun w => sauer.impl_no _ _ w hk)
  · exact fnExactSauerBoundw.law_small n0 n1 (sauer.sb n0 n1) true w    (Lib.hid fun w => sauer.spec_ok _ _ w hk) (Lib.hid fun w => sauer.impl_ok _ _ w hk)
end Go.Proofs.Ytncidajjeccbkaa.fnExactSauerBoundl
