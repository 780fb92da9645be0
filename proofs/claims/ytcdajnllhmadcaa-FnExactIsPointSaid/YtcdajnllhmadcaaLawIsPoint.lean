/- The law FnExactIsPoint: its walk, from the walks of the model's and the program's function. -/
import Derived.Test.YtcdajnllhmadcaaFnExactIsPointW
import Derived.Test.YtcdajnllhmadcaaNums
namespace Go.Proofs.Ytcdajnllhmadcaa.lawispoint
open Go.RowKit own pp

theorem law (a : Option Addr) (zs : List Int) (c : Nat) (w : World) (hr : ints.Reads .i64 w a zs) (_ : ∀ i, i < zs.length → -9223372036854775808 ≤ zs.getD i 0 ∧ zs.getD i 0 ≤ 9223372036854775807) (hl : zs.length ≤ maxLen) :
    Calls Try.prog 4 #[.slice a zs.length c] w fun e w' => e = .returned (.bool true) ∧ Below w.heap.size w w' := by
  unfold maxLen at hl
  by_cases hs : zs.length ≤ 1048576
  · exact fnExactIsPointw.law_small a zs c (pointB zs) w hr hs (Lib.hid fun _ _ _ h => (nums.spec_IsPoint _ _ _ _ h hs _ (Lib.hid rfl)).mono nums.says_ret) (Lib.hid fun _ _ _ h => (nums.impl_point _ _ _ _ h hs _ (Lib.hid rfl)).mono nums.says_ret)
  · exact fnExactIsPointw.law_big a zs c w hr hl hs
end Go.Proofs.Ytcdajnllhmadcaa.lawispoint
