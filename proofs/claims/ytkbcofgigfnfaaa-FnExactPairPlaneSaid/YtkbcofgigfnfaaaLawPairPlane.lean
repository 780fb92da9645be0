/- The law FnExactPairPlane: its walk, from the walks of the model's and the program's function. -/
import Derived.Test.YtkbcofgigfnfaaaFnExactPairPlaneW
import Derived.Test.YtkbcofgigfnfaaaPairS
import Derived.Test.YtkbcofgigfnfaaaPairI
import Derived.Test.YtkbcofgigfnfaaaGrid
namespace Go.Proofs.Ytkbcofgigfnfaaa.fnExactPairPlanel
open Go.RowKit own pp
set_option linter.unusedVariables false

theorem law (a0 : Option Addr) (zs0 : List Int) (c0 : Nat) (a1 : Option Addr) (zs1 : List Int) (c1 : Nat) (w : World) (hr0 : ints.Reads .i64 w a0 zs0) (hf0 : ∀ i, i < zs0.length → -9223372036854775808 ≤ zs0.getD i 0 ∧ zs0.getD i 0 ≤ 9223372036854775807) (hl0 : zs0.length ≤ maxLen) (hr1 : ints.Reads .i64 w a1 zs1) (hf1 : ∀ i, i < zs1.length → -9223372036854775808 ≤ zs1.getD i 0 ∧ zs1.getD i 0 ≤ 9223372036854775807) (hl1 : zs1.length ≤ maxLen) :
    Calls Try.prog 7 #[.slice a0 zs0.length c0, .slice a1 zs1.length c1] w fun e w' => e = .returned (.bool true) ∧ Below w.heap.size w w' := by
  unfold maxLen at hl0 hl1 
  by_cases hs : zs0.length ≤ 1048576 ∧ zs1.length ≤ 1048576
  · obtain ⟨hs0, hs1⟩ := hs
    cases hk : squares.pairB zs0 zs1
    · exact fnExactPairPlanew.law_small a0 zs0 c0 a1 zs1 c1 [] 0 false w hr0 hr1 hs0 hs1 (by simp) (Lib.hid fun _ _ _ _ w h0 h1 => pairs.spec_pp_no _ zs0 _ _ zs1 _ w h0 h1 (by omega) (by omega) (.inl hk)) (Lib.hid fun _ _ _ _ w h0 h1 => pairi.impl_pp_no _ zs0 _ _ zs1 _ w h0 h1 (by omega) (by omega) (.inl hk))
    by_cases he : zs0 = zs1
    · exact fnExactPairPlanew.law_small a0 zs0 c0 a1 zs1 c1 [] 0 false w hr0 hr1 hs0 hs1 (by simp) (Lib.hid fun _ _ _ _ w h0 h1 => pairs.spec_pp_no _ zs0 _ _ zs1 _ w h0 h1 (by omega) (by omega) (.inr he)) (Lib.hid fun _ _ _ _ w h0 h1 => pairi.impl_pp_no _ zs0 _ _ zs1 _ w h0 h1 (by omega) (by omega) (.inr he))
    have hlw := pairp.ppW_length zs0 zs1
    cases hp : planeB (pairp.ppW zs0 zs1) (pairp.ppD zs0 zs1)
    · exact fnExactPairPlanew.law_small a0 zs0 c0 a1 zs1 c1 [] 0 false w hr0 hr1 hs0 hs1 (by simp) (Lib.hid fun _ _ _ _ w h0 h1 => pairs.spec_pp_out _ zs0 _ _ zs1 _ w h0 h1 (by omega) (by omega) hk he hp) (Lib.hid fun _ _ _ _ w h0 h1 => pairi.impl_pp_out _ zs0 _ _ zs1 _ w h0 h1 (by omega) (by omega) hk he hp)
    · exact fnExactPairPlanew.law_small a0 zs0 c0 a1 zs1 c1 (pairp.ppW zs0 zs1) (pairp.ppD zs0 zs1) true w hr0 hr1 hs0 hs1 (by omega) (Lib.hid fun _ _ _ _ w h0 h1 => pairs.spec_pp_yes _ zs0 _ _ zs1 _ w h0 h1 (by omega) (by omega) hk he hp) (Lib.hid fun _ _ _ _ w h0 h1 => pairi.impl_pp_yes _ zs0 _ _ zs1 _ w h0 h1 (by omega) (by omega) hk he hp)
  · exact fnExactPairPlanew.law_big a0 zs0 c0 a1 zs1 c1 w hr0 hr1 hl0 hl1 hs
end Go.Proofs.Ytkbcofgigfnfaaa.fnExactPairPlanel
