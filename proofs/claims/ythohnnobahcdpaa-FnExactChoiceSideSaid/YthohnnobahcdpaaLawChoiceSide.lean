/- The law FnExactChoiceSide: its walk, from the walks of the model's and the program's function. -/
import Derived.Test.YthohnnobahcdpaaFnExactChoiceSideW
import Derived.Test.YthohnnobahcdpaaChoiceI
import Derived.Test.YthohnnobahcdpaaGrid
namespace Go.Proofs.Ythohnnobahcdpaa.fnExactChoiceSidel
open Go.RowKit own pp
set_option linter.unusedVariables false

theorem law (a0 : Option Addr) (zs0 : List Int) (c0 : Nat) (b0 : Int) (a1 : Option Addr) (zs1 : List Int) (c1 : Nat) (b1 : Int) (a2 : Option Addr) (zs2 : List Int) (c2 : Nat) (b2 : Int) (a3 : Option Addr) (zs3 : List Int) (c3 : Nat) (w : World) (hr0 : ints.Reads .i64 w a0 zs0) (hf0 : ∀ z ∈ zs0, grid.Fits z) (hl0 : zs0.length ≤ maxLen) (hb0 : grid.Fits b0) (hr1 : ints.Reads .i64 w a1 zs1) (hf1 : ∀ z ∈ zs1, grid.Fits z) (hl1 : zs1.length ≤ maxLen) (hb1 : grid.Fits b1) (hr2 : ints.Reads .i64 w a2 zs2) (hf2 : ∀ z ∈ zs2, grid.Fits z) (hl2 : zs2.length ≤ maxLen) (hb2 : grid.Fits b2) (hr3 : ints.Reads .i64 w a3 zs3) (hf3 : ∀ i, i < zs3.length → -9223372036854775808 ≤ zs3.getD i 0 ∧ zs3.getD i 0 ≤ 9223372036854775807) (hl3 : zs3.length ≤ maxLen) :
    Calls Try.prog 13 #[.agg #[.slice a0 zs0.length c0, .int .i64 b0], .agg #[.slice a1 zs1.length c1, .int .i64 b1], .agg #[.slice a2 zs2.length c2, .int .i64 b2], .slice a3 zs3.length c3] w fun e w' => e = .returned (.bool true) ∧ Below w.heap.size w w' := by
  unfold maxLen at hl0 hl1 hl2 hl3 
  by_cases hs : zs3.length ≤ 1048576 ∧ (zs0.length : Int) + (zs1.length : Int) + (zs2.length : Int) ≤ 1048576
  · obtain ⟨hs0, hs1⟩ := hs
    cases o0 : oneB zs0 b0 zs3
    · exact fnExactChoiceSidew.law_small a0 zs0 c0 b0 a1 zs1 c1 b1 a2 zs2 c2 b2 a3 zs3 c3 0 false w hr0 hr1 hr2 hr3 hs0 hs1  (Lib.hid fun _ _ _ _ _ _ _ _ w h0 z0 h1 z1 h2 z2 hx zx => chs.spec_side_no1 _ zs0 _ b0 _ zs1 _ b1 _ zs2 _ b2 _ zs3 _ w h0 h1 h2 hx (by omega) (by omega) (by omega) (by omega) o0) (Lib.hid fun _ _ _ _ _ _ _ _ w h0 z0 h1 z1 h2 z2 hx zx => chi.impl_side_no _ zs0 _ b0 _ zs1 _ b1 _ zs2 _ b2 _ zs3 _ w h0 h1 h2 hx z0 z1 z2 zx (by omega) (by omega) (by omega) (by omega) (by rw [o0]; rfl))
    cases o1 : oneB zs1 b1 zs3
    · exact fnExactChoiceSidew.law_small a0 zs0 c0 b0 a1 zs1 c1 b1 a2 zs2 c2 b2 a3 zs3 c3 0 false w hr0 hr1 hr2 hr3 hs0 hs1  (Lib.hid fun _ _ _ _ _ _ _ _ w h0 z0 h1 z1 h2 z2 hx zx => chs.spec_side_no2 _ zs0 _ b0 _ zs1 _ b1 _ zs2 _ b2 _ zs3 _ w h0 h1 h2 hx (by omega) (by omega) (by omega) (by omega) o0 o1) (Lib.hid fun _ _ _ _ _ _ _ _ w h0 z0 h1 z1 h2 z2 hx zx => chi.impl_side_no _ zs0 _ b0 _ zs1 _ b1 _ zs2 _ b2 _ zs3 _ w h0 h1 h2 hx z0 z1 z2 zx (by omega) (by omega) (by omega) (by omega) (by rw [o0, o1]; rfl))
    cases o2 : oneB zs2 b2 zs3
    · exact fnExactChoiceSidew.law_small a0 zs0 c0 b0 a1 zs1 c1 b1 a2 zs2 c2 b2 a3 zs3 c3 0 false w hr0 hr1 hr2 hr3 hs0 hs1  (Lib.hid fun _ _ _ _ _ _ _ _ w h0 z0 h1 z1 h2 z2 hx zx => chs.spec_side_no3 _ zs0 _ b0 _ zs1 _ b1 _ zs2 _ b2 _ zs3 _ w h0 h1 h2 hx (by omega) (by omega) (by omega) (by omega) o0 o1 o2) (Lib.hid fun _ _ _ _ _ _ _ _ w h0 z0 h1 z1 h2 z2 hx zx => chi.impl_side_no _ zs0 _ b0 _ zs1 _ b1 _ zs2 _ b2 _ zs3 _ w h0 h1 h2 hx z0 z1 z2 zx (by omega) (by omega) (by omega) (by omega) (by rw [o0, o1, o2]; rfl))
    · exact fnExactChoiceSidew.law_small a0 zs0 c0 b0 a1 zs1 c1 b1 a2 zs2 c2 b2 a3 zs3 c3 (chs.chSide zs0 b0 zs1 b1 zs2 b2 zs3) true w hr0 hr1 hr2 hr3 hs0 hs1  (Lib.hid fun _ _ _ _ _ _ _ _ w h0 z0 h1 z1 h2 z2 hx zx => chs.spec_side_yes _ zs0 _ b0 _ zs1 _ b1 _ zs2 _ b2 _ zs3 _ w h0 h1 h2 hx (by omega) (by omega) (by omega) (by omega) o0 o1 o2) (Lib.hid fun _ _ _ _ _ _ _ _ w h0 z0 h1 z1 h2 z2 hx zx => chi.impl_side_yes _ zs0 _ b0 _ zs1 _ b1 _ zs2 _ b2 _ zs3 _ w h0 h1 h2 hx z0 z1 z2 zx (by omega) (by omega) (by omega) (by omega) (by rw [o0, o1, o2]; rfl))
  · exact fnExactChoiceSidew.law_big a0 zs0 c0 b0 a1 zs1 c1 b1 a2 zs2 c2 b2 a3 zs3 c3 w hr0 hr1 hr2 hr3 hl0 hl1 hl2 hl3 hs
end Go.Proofs.Ythohnnobahcdpaa.fnExactChoiceSidel
