/- The law FnExactBitPoint: its walk, from the walks of the model's and the program's function. -/
import Derived.Test.YtcdajnllhmadcabFnExactBitPointW
import Derived.Test.YtcdajnllhmadcabBitPoint
import Derived.Test.YtcdajnllhmadcabGrid
namespace Go.Proofs.Ytcdajnllhmadcab.fnExactBitPointl
open Go.RowKit own pp
set_option linter.unusedVariables false

theorem law (n0 : Int) (n1 : Int) (w : World) (hn0 : (Lit.int .i64 n0).wf = true) (hn1 : (Lit.int .i64 n1).wf = true) :
    Calls Try.prog 11 #[.int .i64 n0, .int .i64 n1] w fun e w' => e = .returned (.bool true) ∧ Below w.heap.size w w' := by
  cases hk : bitpoint.bpB n0 n1
  · exact fnExactBitPointw.law_small n0 n1 [] false w   (by simp) (Lib.hid fun w => bitpoint.spec_no _ _ w hk) (Lib.hid fun w => bitpoint.impl_no _ _ w hk)
  · exact fnExactBitPointw.law_small n0 n1 (bitw.bitsTo n1.toNat n0.toNat) true w   (by rw [bitw.bitsTo_length]; have := (show (1 ≤ n0 ∧ n0 ≤ 4) ∧ _ by simpa [bitpoint.bpB] using hk).1; omega) (Lib.hid fun w => bitpoint.spec_yes _ _ w hk) (Lib.hid fun w => bitpoint.impl_yes _ _ w hk)
end Go.Proofs.Ytcdajnllhmadcab.fnExactBitPointl
