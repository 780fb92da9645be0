/- The law FnExactStepWinnow: its walk, from the walks of the model's and the program's function. -/
import Derived.Test.YtfooajnjkkpkiaaFnExactStepWinnowW
import Derived.Test.YtfooajnjkkpkiaaTurn
import Derived.Test.YtfooajnjkkpkiaaGrid
namespace Go.Proofs.Ytfooajnjkkpkiaa.fnExactStepWinnowl
open Go.RowKit own pp
set_option linter.unusedVariables false

theorem law (a0 : Option Addr) (zs0 : List Int) (c0 : Nat) (a1 : Option Addr) (zs1 : List Int) (c1 : Nat) (n2 : Int) (w : World) (hr0 : ints.Reads .i64 w a0 zs0) (hf0 : ∀ i, i < zs0.length → -9223372036854775808 ≤ zs0.getD i 0 ∧ zs0.getD i 0 ≤ 9223372036854775807) (hl0 : zs0.length ≤ maxLen) (hr1 : ints.Reads .i64 w a1 zs1) (hf1 : ∀ i, i < zs1.length → -9223372036854775808 ≤ zs1.getD i 0 ∧ zs1.getD i 0 ≤ 9223372036854775807) (hl1 : zs1.length ≤ maxLen) (hn2 : (Lit.int .i64 n2).wf = true) :
    Calls Try.prog 14 #[.slice a0 zs0.length c0, .slice a1 zs1.length c1, .int .i64 n2] w fun e w' => e = .returned (.bool true) ∧ Below w.heap.size w w' := by
  unfold maxLen at hl0 hl1 
  by_cases hs : zs0.length ≤ 1048576 ∧ zs1.length ≤ 1048576
  · obtain ⟨hs0, hs1⟩ := hs
    cases hk : turn.swB zs0 zs1 n2
    · exact fnExactStepWinnoww.law_small a0 zs0 c0 a1 zs1 c1 n2 [] false false w hr0 hr1 hs0 hs1 (by simp) (Lib.hid fun _ _ _ _ _ h k => turn.spec_no _ _ _ _ _ _ _ _ h k (by omega) (by omega) (Lib.hid hk)) (Lib.hid fun _ _ _ _ _ h k => turn.impl_no _ _ _ _ _ _ _ _ h k (by omega) (by omega) (Lib.hid hk))
    · exact fnExactStepWinnoww.law_small a0 zs0 c0 a1 zs1 c1 n2 (turn.next zs0 zs1 n2) (decide (turn.says zs0 zs1 = n2)) true w hr0 hr1 hs0 hs1 (by rw [turn.next_length]; omega) (Lib.hid fun _ _ _ _ _ h k => turn.spec_yes _ _ _ _ _ _ _ _ h k (by omega) (by omega) (Lib.hid hk)) (Lib.hid fun _ _ _ _ _ h k => turn.impl_yes _ _ _ _ _ _ _ _ h k (by omega) (by omega) (Lib.hid hk))
  · exact fnExactStepWinnoww.law_big a0 zs0 c0 a1 zs1 c1 n2 w hr0 hr1 hl0 hl1 hs
end Go.Proofs.Ytfooajnjkkpkiaa.fnExactStepWinnowl
