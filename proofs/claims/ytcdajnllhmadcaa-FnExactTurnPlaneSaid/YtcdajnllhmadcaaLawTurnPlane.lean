/- The law FnExactTurnPlane: its walk, from the walks of the model's and the program's function. -/
import Derived.Test.YtcdajnllhmadcaaFnExactTurnPlaneW
import Derived.Test.YtcdajnllhmadcaaTurnPlane
import Derived.Test.YtcdajnllhmadcaaGrid
namespace Go.Proofs.Ytcdajnllhmadcaa.fnExactTurnPlanel
open Go.RowKit own pp
set_option linter.unusedVariables false

theorem law (a0 : Option Addr) (zs0 : List Int) (c0 : Nat) (b0 : Int) (w : World) (hr0 : ints.Reads .i64 w a0 zs0) (hf0 : ∀ z ∈ zs0, grid.Fits z) (hl0 : zs0.length ≤ maxLen) (hb0 : grid.Fits b0) :
    Calls Try.prog 12 #[.agg #[.slice a0 zs0.length c0, .int .i64 b0]] w fun e w' => e = .returned (.bool true) ∧ Below w.heap.size w w' := by
  unfold maxLen at hl0 
  by_cases hs : (zs0.length : Int) ≤ 1048576
  · have hs0 := hs
    cases hk : planeB zs0 b0
    · exact fnExactTurnPlanew.law_small a0 zs0 c0 b0 [] 0 false w hr0 hs0 (by simp) (Lib.hid fun _ _ _ h => turnplane.spec_no _ _ _ _ _ h (by omega) (Lib.hid hk)) (Lib.hid fun _ _ _ h => turnplane.impl_no _ _ _ _ _ h (by omega) (Lib.hid hk))
    · cases hx : planeB (minus.neg zs0) (1 - b0)
      · exact fnExactTurnPlanew.law_small a0 zs0 c0 b0 [] 0 false w hr0 hs0 (by simp) (Lib.hid fun _ _ _ h => turnplane.spec_out _ _ _ _ _ h (by omega) (Lib.hid hk) (Lib.hid hx)) (Lib.hid fun _ _ _ h => turnplane.impl_out _ _ _ _ _ h (by omega) (Lib.hid hk) (Lib.hid hx))
      · exact fnExactTurnPlanew.law_small a0 zs0 c0 b0 (minus.neg zs0) (1 - b0) true w hr0 hs0 (by rw [minus.neg_length]; omega) (Lib.hid fun _ _ _ h => turnplane.spec_yes _ _ _ _ _ h (by omega) (Lib.hid hk) (Lib.hid hx)) (Lib.hid fun _ _ _ h => turnplane.impl_yes _ _ _ _ _ h (by omega) (Lib.hid hk) (Lib.hid hx))
  · exact fnExactTurnPlanew.law_big a0 zs0 c0 b0 w hr0 hl0 hs
end Go.Proofs.Ytcdajnllhmadcaa.fnExactTurnPlanel
