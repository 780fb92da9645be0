/- The law FnExactIsPlane: its walk, from the walks of the model's and the program's function. -/
import Derived.Test.YtcdajnllhmadcaaFnExactIsPlaneW
import Derived.Test.YtcdajnllhmadcaaPlanes
import Derived.Test.YtcdajnllhmadcaaGrid
namespace Go.Proofs.Ytcdajnllhmadcaa.lawisplane
open Go.RowKit own pp

theorem law (a : Option Addr) (zs : List Int) (c : Nat) (b : Int) (w : World) (hr : ints.Reads .i64 w a zs) (_ : ∀ z ∈ zs, grid.Fits z) (hl : zs.length ≤ maxLen) (_ : grid.Fits b) :
    Calls Try.prog 6 #[.agg #[.slice a zs.length c, .int .i64 b]] w fun e w' => e = .returned (.bool true) ∧ Below w.heap.size w w' := by
  unfold maxLen at hl
  by_cases hs : (zs.length : Int) ≤ 1048576
  · exact fnExactIsPlanew.law_small a zs c b (planeB zs b) w hr hs (Lib.hid fun _ _ _ h => planes.spec_IsPlane _ _ _ _ _ h (by omega) _ (Lib.hid rfl)) (Lib.hid fun _ _ _ h => planes.impl_plane _ _ _ _ _ h (by omega) _ (Lib.hid rfl))
  · exact fnExactIsPlanew.law_big a zs c b w hr hl hs
end Go.Proofs.Ytcdajnllhmadcaa.lawisplane
