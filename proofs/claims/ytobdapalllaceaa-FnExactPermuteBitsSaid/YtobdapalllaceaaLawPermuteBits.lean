/- The law FnExactPermuteBits: its walk, from the walks of the model's and the program's function. -/
import Derived.Test.YtobdapalllaceaaFnExactPermuteBitsW
import Derived.Test.YtobdapalllaceaaPermM
import Derived.Test.YtobdapalllaceaaGrid
namespace Go.Proofs.Ytobdapalllaceaa.fnExactPermuteBitsl
open Go.RowKit own pp
set_option linter.unusedVariables false

theorem law (n0 : Int) (a1 : Option Addr) (zs1 : List Int) (c1 : Nat) (a2 : Option Addr) (zs2 : List Int) (c2 : Nat) (w : World) (hn0 : (Lit.int .i64 n0).wf = true) (hr1 : ints.Reads .i64 w a1 zs1) (hf1 : ∀ i, i < zs1.length → -9223372036854775808 ≤ zs1.getD i 0 ∧ zs1.getD i 0 ≤ 9223372036854775807) (hl1 : zs1.length ≤ maxLen) (hr2 : ints.Reads .i64 w a2 zs2) (hf2 : ∀ i, i < zs2.length → -9223372036854775808 ≤ zs2.getD i 0 ∧ zs2.getD i 0 ≤ 9223372036854775807) (hl2 : zs2.length ≤ maxLen) :
    Calls Try.prog 3 #[.int .i64 n0, .slice a1 zs1.length c1, .slice a2 zs2.length c2] w fun e w' => e = .returned (.bool true) ∧ Below w.heap.size w w' := by
  unfold maxLen at hl1 hl2 
  by_cases hs : zs1.length ≤ 1048576 ∧ zs2.length ≤ 1048576
  · obtain ⟨hs0, hs1⟩ := hs
    cases hk : tab.tabB n0 zs1
    · exact fnExactPermuteBitsw.law_small n0 a1 zs1 c1 a2 zs2 c2 [] false w hr1 hr2 hs0 hs1 (by simp) (Lib.hid fun _ _ _ _ _ h k => permm.spec_no _ _ _ _ _ _ _ _ h k (by omega) hk) (Lib.hid fun _ _ _ _ _ h k => permm.impl_no _ _ _ _ _ _ _ _ h k (by omega) hk)
    obtain ⟨m0, rfl, _, _, h16, _⟩ := tab.tab_nat hk
    cases hx : permp.orderB m0 zs2
    · exact fnExactPermuteBitsw.law_small (m0 : Int) a1 zs1 c1 a2 zs2 c2 [] false w hr1 hr2 hs0 hs1 (by simp) (Lib.hid fun _ _ _ _ _ h k => permm.spec_no2 _ _ _ _ _ _ _ _ h k (by omega) hk hx) (Lib.hid fun _ _ _ _ _ h k => permm.impl_no2 _ _ _ _ _ _ _ _ h k (by omega) hk hx)
    · exact fnExactPermuteBitsw.law_small (m0 : Int) a1 zs1 c1 a2 zs2 c2 (permw.permT zs1 zs2 m0) true w hr1 hr2 hs0 hs1 (by unfold permw.permT; rw [mk.mk_length]; omega) (Lib.hid fun _ _ _ _ _ h k => permm.spec_yes _ _ _ _ _ _ _ _ h k (by omega) hk hx) (Lib.hid fun _ _ _ _ _ h k => permm.impl_yes _ _ _ _ _ _ _ _ h k (by omega) hk hx)
  · exact fnExactPermuteBitsw.law_big n0 a1 zs1 c1 a2 zs2 c2 w hr1 hr2 hl1 hl2 hs
end Go.Proofs.Ytobdapalllaceaa.fnExactPermuteBitsl
