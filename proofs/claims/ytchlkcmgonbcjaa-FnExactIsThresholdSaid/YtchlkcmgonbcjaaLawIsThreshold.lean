/- The law FnExactIsThreshold: its walk, from the walks of the model's and the program's function. -/
import Derived.Test.YtchlkcmgonbcjaaFnExactIsThresholdW
import Derived.Test.YtchlkcmgonbcjaaIsThr
import Derived.Test.YtchlkcmgonbcjaaGrid
namespace Go.Proofs.Ytchlkcmgonbcjaa.fnExactIsThresholdl
open Go.RowKit own pp
set_option linter.unusedVariables false

theorem law (n0 : Int) (a1 : Option Addr) (zs1 : List Int) (c1 : Nat) (w : World) (hn0 : (Lit.int .i64 n0).wf = true) (hr1 : ints.Reads .i64 w a1 zs1) (hf1 : ∀ i, i < zs1.length → -9223372036854775808 ≤ zs1.getD i 0 ∧ zs1.getD i 0 ≤ 9223372036854775807) (hl1 : zs1.length ≤ maxLen) :
    Calls Try.prog 14 #[.int .i64 n0, .slice a1 zs1.length c1] w fun e w' => e = .returned (.bool true) ∧ Below w.heap.size w w' := by
  unfold maxLen at hl1 
  by_cases hs : zs1.length ≤ 1048576
  · have hs0 := hs
    cases hk : tab.tabB n0 zs1
    · exact fnExactIsThresholdw.law_small n0 a1 zs1 c1 false false w hr1 hs0  (Lib.hid fun _ _ _ h => isthr.spec_no _ _ _ _ _ h hk) (Lib.hid fun _ _ _ h => isthr.impl_no _ _ _ _ _ h hk)
    obtain ⟨m0, rfl, _, _, h16, _⟩ := tab.tab_nat hk
    exact fnExactIsThresholdw.law_small (m0 : Int) a1 zs1 c1 (!(decide (0 < (findp.findT m0 zs1).length))) true w hr1 hs0  (Lib.hid fun _ _ _ h => isthr.spec_yes _ _ _ _ _ h hk) (Lib.hid fun _ _ _ h => isthr.impl_yes _ _ _ _ _ h hk)
  · exact fnExactIsThresholdw.law_big n0 a1 zs1 c1 w hr1 hl1 hs
end Go.Proofs.Ytchlkcmgonbcjaa.fnExactIsThresholdl
