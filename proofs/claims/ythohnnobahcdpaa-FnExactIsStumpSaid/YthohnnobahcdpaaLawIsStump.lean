/- The law FnExactIsStump: its walk, from the walks of the model's and the program's function. -/
import Derived.Test.YthohnnobahcdpaaFnExactIsStumpW
import Derived.Test.YthohnnobahcdpaaIsStump
import Derived.Test.YthohnnobahcdpaaGrid
namespace Go.Proofs.Ythohnnobahcdpaa.fnExactIsStumpl
open Go.RowKit own pp
set_option linter.unusedVariables false

theorem law (a0 : Option Addr) (zs0 : List Int) (c0 : Nat) (b0 : Int) (w : World) (hr0 : ints.Reads .i64 w a0 zs0) (hf0 : ∀ z ∈ zs0, grid.Fits z) (hl0 : zs0.length ≤ maxLen) (hb0 : grid.Fits b0) :
    Calls Try.prog 3 #[.agg #[.slice a0 zs0.length c0, .int .i64 b0]] w fun e w' => e = .returned (.bool true) ∧ Below w.heap.size w w' := by
  unfold maxLen at hl0 
  by_cases hs : (zs0.length : Int) ≤ 1048576
  · have hs0 := hs
    exact fnExactIsStumpw.law_small a0 zs0 c0 b0 (stump.stumpB zs0 b0) w hr0 hs0  (Lib.hid fun _ _ w h => stump.spec_IsStump _ _ _ _ _ h (by omega) _ (Lib.hid rfl)) (Lib.hid fun _ _ w h => stump.impl_IsStump _ _ _ _ _ h (by omega) _ (Lib.hid rfl))
  · exact fnExactIsStumpw.law_big a0 zs0 c0 b0 w hr0 hl0 hs
end Go.Proofs.Ythohnnobahcdpaa.fnExactIsStumpl
