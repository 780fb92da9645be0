/- The law FnExactDualVote: its walk, from the walks of the model's and the program's function. -/
import Derived.Test.YtcklehfcpengoaaFnExactDualVoteW
import Derived.Test.YtcklehfcpengoaaDualV
import Derived.Test.YtcklehfcpengoaaGrid
namespace Go.Proofs.Ytcklehfcpengoaa.fnExactDualVotel
open Go.RowKit own pp
set_option linter.unusedVariables false

theorem law (a0 : Option Addr) (zs0 : List Int) (c0 : Nat) (b0 : Int) (w : World) (hr0 : ints.Reads .i64 w a0 zs0) (hf0 : ∀ z ∈ zs0, grid.Fits z) (hl0 : zs0.length ≤ maxLen) (hb0 : grid.Fits b0) :
    Calls Try.prog 6 #[.agg #[.slice a0 zs0.length c0, .int .i64 b0]] w fun e w' => e = .returned (.bool true) ∧ Below w.heap.size w w' := by
  unfold maxLen at hl0 
  by_cases hs : (zs0.length : Int) ≤ 1048576
  · have hs0 := hs
    cases hk : pv.voteB zs0 b0
    · exact fnExactDualVotew.law_small a0 zs0 c0 b0 [] 0 false w hr0 hs0 (by simp) (Lib.hid fun _ _ _ h => dualv.spec_no _ _ _ _ _ h (by omega) hk) (Lib.hid fun _ _ _ h => dualv.impl_no _ _ _ _ _ h (by omega) hk)
    · exact fnExactDualVotew.law_small a0 zs0 c0 b0 zs0 (pv.sumZ zs0 + 1 - b0) true w hr0 hs0 (by omega) (Lib.hid fun _ _ _ h => dualv.spec_yes _ _ _ _ _ h (by omega) hk) (Lib.hid fun _ _ _ h => dualv.impl_yes _ _ _ _ _ h (by omega) hk)
  · exact fnExactDualVotew.law_big a0 zs0 c0 b0 w hr0 hl0 hs
end Go.Proofs.Ytcklehfcpengoaa.fnExactDualVotel
