/- The law FnExactKernelOf: its walk, from the walks of the model's and the program's function. -/
import Derived.Test.YtkbcofgigfnfaaaFnExactKernelOfW
import Derived.Test.YtkbcofgigfnfaaaKern
import Derived.Test.YtkbcofgigfnfaaaGrid
namespace Go.Proofs.Ytkbcofgigfnfaaa.fnExactKernelOfl
open Go.RowKit own pp
set_option linter.unusedVariables false

theorem law (a0 : Option Addr) (zs0 : List Int) (c0 : Nat) (a1 : Option Addr) (zs1 : List Int) (c1 : Nat) (n2 : Int) (w : World) (hr0 : ints.Reads .i64 w a0 zs0) (hf0 : ∀ i, i < zs0.length → -9223372036854775808 ≤ zs0.getD i 0 ∧ zs0.getD i 0 ≤ 9223372036854775807) (hl0 : zs0.length ≤ maxLen) (hr1 : ints.Reads .i64 w a1 zs1) (hf1 : ∀ i, i < zs1.length → -9223372036854775808 ≤ zs1.getD i 0 ∧ zs1.getD i 0 ≤ 9223372036854775807) (hl1 : zs1.length ≤ maxLen) (hn2 : (Lit.int .i64 n2).wf = true) :
    Calls Try.prog 9 #[.slice a0 zs0.length c0, .slice a1 zs1.length c1, .int .i64 n2] w fun e w' => e = .returned (.bool true) ∧ Below w.heap.size w w' := by
  unfold maxLen at hl0 hl1 
  by_cases hs : zs0.length ≤ 1048576 ∧ zs1.length ≤ 1048576
  · obtain ⟨hs0, hs1⟩ := hs
    cases hk : kern.kofB zs0 zs1 n2
    · exact fnExactKernelOfw.law_small a0 zs0 c0 a1 zs1 c1 n2 0 false w hr0 hr1 hs0 hs1  (Lib.hid fun _ _ _ _ w h0 h1 => kern.spec_kof_no _ zs0 _ _ zs1 _ n2 w h0 h1 (by omega) (by omega) hk) (Lib.hid fun _ _ _ _ w h0 h1 => kern.impl_kof_no _ zs0 _ _ zs1 _ n2 w h0 h1 (by omega) (by omega) hk)
    · exact fnExactKernelOfw.law_small a0 zs0 c0 a1 zs1 c1 n2 (kern.kern zs0 zs1 n2) true w hr0 hr1 hs0 hs1  (Lib.hid fun _ _ _ _ w h0 h1 => kern.spec_kof_yes _ zs0 _ _ zs1 _ n2 w h0 h1 (by omega) (by omega) hk) (Lib.hid fun _ _ _ _ w h0 h1 => kern.impl_kof_yes _ zs0 _ _ zs1 _ n2 w h0 h1 (by omega) (by omega) hk)
  · exact fnExactKernelOfw.law_big a0 zs0 c0 a1 zs1 c1 n2 w hr0 hr1 hl0 hl1 hs
end Go.Proofs.Ytkbcofgigfnfaaa.fnExactKernelOfl
