/- The law FnExactVoteTable: its walk, from the walks of the model's and the program's function. -/
import Derived.Test.YtcklehfcpengoaaFnExactVoteTableW
import Derived.Test.YtcklehfcpengoaaToldV
import Derived.Test.YtcklehfcpengoaaGrid
namespace Go.Proofs.Ytcklehfcpengoaa.fnExactVoteTablel
open Go.RowKit own pp
set_option linter.unusedVariables false

theorem law (a0 : Option Addr) (zs0 : List Int) (c0 : Nat) (b0 : Int) (w : World) (hr0 : ints.Reads .i64 w a0 zs0) (hf0 : ∀ z ∈ zs0, grid.Fits z) (hl0 : zs0.length ≤ maxLen) (hb0 : grid.Fits b0) :
    Calls Try.prog 9 #[.agg #[.slice a0 zs0.length c0, .int .i64 b0]] w fun e w' => e = .returned (.bool true) ∧ Below w.heap.size w w' := by
  unfold maxLen at hl0 
  by_cases hs : (zs0.length : Int) ≤ 1048576
  · have hs0 := hs
    cases hk : pv.voteB zs0 b0
    · exact fnExactVoteTablew.law_small a0 zs0 c0 b0 [] false w hr0 hs0 (by simp) (Lib.hid fun _ _ _ h => toldv.spec_no _ _ _ _ _ h (by omega) hk) (Lib.hid fun _ _ _ h => toldv.impl_no _ _ _ _ _ h (by omega) hk)
    by_cases h4 : zs0.length ≤ 4
    · exact fnExactVoteTablew.law_small a0 zs0 c0 b0 (planetable.tab zs0 b0) true w hr0 hs0 (by unfold planetable.tab; rw [tables.tabTo_length]; have := bits8.pow8 (n := zs0.length) (by omega); omega) (Lib.hid fun _ _ _ h => toldv.spec_yes _ _ _ _ _ h (by omega) hk h4) (Lib.hid fun _ _ _ h => toldv.impl_yes _ _ _ _ _ h (by omega) hk h4)
    · exact fnExactVoteTablew.law_small a0 zs0 c0 b0 [] false w hr0 hs0 (by simp) (Lib.hid fun _ _ _ h => toldv.spec_long _ _ _ _ _ h (by omega) hk h4) (Lib.hid fun _ _ _ h => toldv.impl_long _ _ _ _ _ h (by omega) hk h4)
  · exact fnExactVoteTablew.law_big a0 zs0 c0 b0 w hr0 hl0 hs
end Go.Proofs.Ytcklehfcpengoaa.fnExactVoteTablel
