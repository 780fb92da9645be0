/- The law FnExactIsGame: its walk, from the walks of the model's and the program's function. -/
import Derived.Test.YtcklehfcpengoaaFnExactIsGameW
import Derived.Test.YtcklehfcpengoaaGameT
import Derived.Test.YtcklehfcpengoaaGrid
namespace Go.Proofs.Ytcklehfcpengoaa.fnExactIsGamel
open Go.RowKit own pp
set_option linter.unusedVariables false

theorem law (n0 : Int) (a1 : Option Addr) (zs1 : List Int) (c1 : Nat) (w : World) (hn0 : (Lit.int .i64 n0).wf = true) (hr1 : ints.Reads .i64 w a1 zs1) (hf1 : ∀ i, i < zs1.length → -9223372036854775808 ≤ zs1.getD i 0 ∧ zs1.getD i 0 ≤ 9223372036854775807) (hl1 : zs1.length ≤ maxLen) :
    Calls Try.prog 10 #[.int .i64 n0, .slice a1 zs1.length c1] w fun e w' => e = .returned (.bool true) ∧ Below w.heap.size w w' := by
  unfold maxLen at hl1 
  by_cases hs : zs1.length ≤ 1048576
  · have hs0 := hs
    by_cases h1 : n0 < 1
    · exact fnExactIsGamew.law_small n0 a1 zs1 c1 false false w hr1 hs0  (Lib.hid fun _ _ _ h => gamet.spec_small _ _ _ _ _ h1) (Lib.hid fun _ _ _ h => gamet.impl_small _ _ _ _ _ h1)
    cases hk : tab.tabB n0 zs1
    · exact fnExactIsGamew.law_small n0 a1 zs1 c1 false false w hr1 hs0  (Lib.hid fun _ _ _ h => gamet.spec_no _ _ _ _ _ h (by omega) hk) (Lib.hid fun _ _ _ h => gamet.impl_no _ _ _ _ _ h (by omega) hk)
    obtain ⟨m, hm, _⟩ := tab.tab_nat hk
    subst hm
    exact fnExactIsGamew.law_small (m : Int) a1 zs1 c1 (gamet.gameB m zs1) true w hr1 hs0  (Lib.hid fun _ _ _ h => gamet.spec_yes _ _ _ _ _ h (by omega) hk) (Lib.hid fun _ _ _ h => gamet.impl_yes _ _ _ _ _ h (by omega) hk)
  · exact fnExactIsGamew.law_big n0 a1 zs1 c1 w hr1 hl1 hs
end Go.Proofs.Ytcklehfcpengoaa.fnExactIsGamel
