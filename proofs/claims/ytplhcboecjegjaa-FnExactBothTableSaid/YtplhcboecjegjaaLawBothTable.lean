/- The law FnExactBothTable: its walk, from the walks of the model's and the program's function. -/
import Derived.Test.YtplhcboecjegjaaFnExactBothTableW
import Derived.Test.YtplhcboecjegjaaBothS
import Derived.Test.YtplhcboecjegjaaBothY
import Derived.Test.YtplhcboecjegjaaGrid
namespace Go.Proofs.Ytplhcboecjegjaa.fnExactBothTablel
open Go.RowKit own pp
set_option linter.unusedVariables false

theorem law (a0 : Option Addr) (zs0 : List Int) (c0 : Nat) (b0 : Int) (a1 : Option Addr) (zs1 : List Int) (c1 : Nat) (b1 : Int) (w : World) (hr0 : ints.Reads .i64 w a0 zs0) (hf0 : ∀ z ∈ zs0, grid.Fits z) (hl0 : zs0.length ≤ maxLen) (hb0 : grid.Fits b0) (hr1 : ints.Reads .i64 w a1 zs1) (hf1 : ∀ z ∈ zs1, grid.Fits z) (hl1 : zs1.length ≤ maxLen) (hb1 : grid.Fits b1) :
    Calls Try.prog 7 #[.agg #[.slice a0 zs0.length c0, .int .i64 b0], .agg #[.slice a1 zs1.length c1, .int .i64 b1]] w fun e w' => e = .returned (.bool true) ∧ Below w.heap.size w w' := by
  unfold maxLen at hl0 hl1 
  by_cases hs : (zs0.length : Int) + (zs1.length : Int) ≤ 1048576
  · have hs0 := hs
    cases hk0 : pv.voteB zs0 b0
    · exact fnExactBothTablew.law_small a0 zs0 c0 b0 a1 zs1 c1 b1 [] false w hr0 hr1 hs0 (by simp) (Lib.hid fun _ _ _ _ _ h k => boths.spec_no1 _ _ _ _ _ _ _ _ _ h k (by omega) (by omega) (Lib.hid hk0)) (Lib.hid fun _ _ _ _ _ h k => bothi.impl_no _ _ _ _ _ _ _ _ _ h k (by omega) (by omega) (fun e => by have := e.1; rw [hk0] at this; cases this))
    cases hk1 : pv.voteB zs1 b1
    · exact fnExactBothTablew.law_small a0 zs0 c0 b0 a1 zs1 c1 b1 [] false w hr0 hr1 hs0 (by simp) (Lib.hid fun _ _ _ _ _ h k => boths.spec_no2 _ _ _ _ _ _ _ _ _ h k (by omega) (by omega) (Lib.hid hk0) (Lib.hid hk1)) (Lib.hid fun _ _ _ _ _ h k => bothi.impl_no _ _ _ _ _ _ _ _ _ h k (by omega) (by omega) (fun e => by have := e.2.1; rw [hk1] at this; cases this))
    by_cases hl : zs1.length = zs0.length
    · by_cases h4 : zs0.length ≤ 4
      · exact fnExactBothTablew.law_small a0 zs0 c0 b0 a1 zs1 c1 b1 (bothi.preTo (planetable.tab zs0 b0) (planetable.tab zs1 b1) (planetable.tab zs0 b0).length) true w hr0 hr1 hs0 (by rw [bothi.preTo_length, bothi.tab_len]; have := bits8.pow8 (n := zs0.length) (by omega); omega) (Lib.hid fun _ _ _ _ _ h k => boths.spec_yes _ _ _ _ _ _ _ _ _ h k (by omega) (by omega) (Lib.hid hk0) (Lib.hid hk1) (Lib.hid hl) h4) (Lib.hid fun _ _ _ _ _ h k => bothi.impl_yes _ _ _ _ _ _ _ _ _ h k (by omega) (by omega) hk0 hk1 hl.symm h4)
      · exact fnExactBothTablew.law_small a0 zs0 c0 b0 a1 zs1 c1 b1 [] false w hr0 hr1 hs0 (by simp) (Lib.hid fun _ _ _ _ _ h k => boths.spec_no4 _ _ _ _ _ _ _ _ _ h k (by omega) (by omega) (Lib.hid hk0) (Lib.hid hk1) (Lib.hid hl) h4) (Lib.hid fun _ _ _ _ _ h k => bothi.impl_no _ _ _ _ _ _ _ _ _ h k (by omega) (by omega) (fun e => h4 e.2.2.2))
    · exact fnExactBothTablew.law_small a0 zs0 c0 b0 a1 zs1 c1 b1 [] false w hr0 hr1 hs0 (by simp) (Lib.hid fun _ _ _ _ _ h k => boths.spec_no3 _ _ _ _ _ _ _ _ _ h k (by omega) (by omega) (Lib.hid hk0) (Lib.hid hk1) (by omega)) (Lib.hid fun _ _ _ _ _ h k => bothi.impl_no _ _ _ _ _ _ _ _ _ h k (by omega) (by omega) (fun e => hl e.2.2.1.symm))
  · exact fnExactBothTablew.law_big a0 zs0 c0 b0 a1 zs1 c1 b1 w hr0 hr1 hl0 hl1 hs
end Go.Proofs.Ytplhcboecjegjaa.fnExactBothTablel
