/- The law FnExactLiftPlane: its walk, from the walks of the model's and the program's function. -/
import Derived.Test.YtlehlgnenaapaaaFnExactLiftPlaneW
import Derived.Test.YtlehlgnenaapaaaLiftPlane
import Derived.Test.YtlehlgnenaapaaaGrid
namespace Go.Proofs.Ytlehlgnenaapaaa.fnExactLiftPlanel
open Go.RowKit own pp
set_option linter.unusedVariables false

theorem law (a0 : Option Addr) (zs0 : List Int) (c0 : Nat) (b0 : Int) (w : World) (hr0 : ints.Reads .i64 w a0 zs0) (hf0 : ∀ z ∈ zs0, grid.Fits z) (hl0 : zs0.length ≤ maxLen) (hb0 : grid.Fits b0) :
    Calls Try.prog 8 #[.agg #[.slice a0 zs0.length c0, .int .i64 b0]] w fun e w' => e = .returned (.bool true) ∧ Below w.heap.size w w' := by
  unfold maxLen at hl0 
  by_cases hs : (zs0.length : Int) ≤ 1048576
  · have hs0 := hs
    cases hk : planeB zs0 b0
    · exact fnExactLiftPlanew.law_small a0 zs0 c0 b0 [] 0 false w hr0 hs0 (by simp) (Lib.hid fun _ _ _ h => liftplane.spec_no _ _ _ _ _ h (by omega) (Lib.hid hk)) (Lib.hid fun _ _ _ h => liftplane.impl_no _ _ _ _ _ h (by omega) (Lib.hid hk))
    · by_cases hx : zs0.length = 4
      · exact fnExactLiftPlanew.law_small a0 zs0 c0 b0 [] 0 false w hr0 hs0 (by simp) (Lib.hid fun _ _ _ h => liftplane.spec_full _ _ _ _ _ h (by omega) (Lib.hid hk) hx) (Lib.hid fun _ _ _ h => liftplane.impl_full _ _ _ _ _ h (by omega) (Lib.hid hk) hx)
      · exact fnExactLiftPlanew.law_small a0 zs0 c0 b0 (zs0 ++ [b0]) 0 true w hr0 hs0 (by have := ((planeB_iff _ _).1 hk).2.1; simp; omega) (Lib.hid fun _ _ _ h => liftplane.spec_yes _ _ _ _ _ h (by omega) (Lib.hid hk) hx) (Lib.hid fun _ _ _ h => liftplane.impl_yes _ _ _ _ _ h (by omega) (Lib.hid hk) hx)
  · exact fnExactLiftPlanew.law_big a0 zs0 c0 b0 w hr0 hl0 hs
end Go.Proofs.Ytlehlgnenaapaaa.fnExactLiftPlanel
