/- The law FnExactAreShares: its walk, from the walks of the model's and the program's function. -/
import Derived.Test.YtfooajnjkkpkiaaFnExactAreSharesW
import Derived.Test.YtfooajnjkkpkiaaShares
import Derived.Test.YtfooajnjkkpkiaaGrid
namespace Go.Proofs.Ytfooajnjkkpkiaa.fnExactAreSharesl
open Go.RowKit own pp
set_option linter.unusedVariables false

theorem law (a0 : Option Addr) (zs0 : List Int) (c0 : Nat) (w : World) (hr0 : ints.Reads .i64 w a0 zs0) (hf0 : ∀ i, i < zs0.length → -9223372036854775808 ≤ zs0.getD i 0 ∧ zs0.getD i 0 ≤ 9223372036854775807) (hl0 : zs0.length ≤ maxLen) :
    Calls Try.prog 13 #[.slice a0 zs0.length c0] w fun e w' => e = .returned (.bool true) ∧ Below w.heap.size w w' := by
  unfold maxLen at hl0 
  by_cases hs : zs0.length ≤ 1048576
  · have hs0 := hs
    exact fnExactAreSharesw.law_small a0 zs0 c0 (range.sharesB zs0) w hr0 hs0  (Lib.hid fun _ _ _ h => range.spec_AreShares _ _ _ _ h (by omega) _ (Lib.hid rfl)) (Lib.hid fun _ _ _ h => shares.impl_AreShares _ _ _ _ h (by omega) _ (Lib.hid rfl))
  · exact fnExactAreSharesw.law_big a0 zs0 c0 w hr0 hl0 hs
end Go.Proofs.Ytfooajnjkkpkiaa.fnExactAreSharesl
