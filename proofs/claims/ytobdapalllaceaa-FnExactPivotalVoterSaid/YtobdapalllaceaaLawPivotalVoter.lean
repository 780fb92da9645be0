/- The law FnExactPivotalVoter: its walk, from the walks of the model's and the program's function. -/
import Derived.Test.YtobdapalllaceaaFnExactPivotalVoterW
import Derived.Test.YtobdapalllaceaaPivot
import Derived.Test.YtobdapalllaceaaGrid
namespace Go.Proofs.Ytobdapalllaceaa.fnExactPivotalVoterl
open Go.RowKit own pp
set_option linter.unusedVariables false

theorem law (a0 : Option Addr) (zs0 : List Int) (c0 : Nat) (b0 : Int) (a1 : Option Addr) (zs1 : List Int) (c1 : Nat) (w : World) (hr0 : ints.Reads .i64 w a0 zs0) (hf0 : ∀ z ∈ zs0, grid.Fits z) (hl0 : zs0.length ≤ maxLen) (hb0 : grid.Fits b0) (hr1 : ints.Reads .i64 w a1 zs1) (hf1 : ∀ i, i < zs1.length → -9223372036854775808 ≤ zs1.getD i 0 ∧ zs1.getD i 0 ≤ 9223372036854775807) (hl1 : zs1.length ≤ maxLen) :
    Calls Try.prog 4 #[.agg #[.slice a0 zs0.length c0, .int .i64 b0], .slice a1 zs1.length c1] w fun e w' => e = .returned (.bool true) ∧ Below w.heap.size w w' := by
  unfold maxLen at hl0 hl1 
  by_cases hs : zs1.length ≤ 1048576 ∧ (zs0.length : Int) ≤ 1048576
  · obtain ⟨hs0, hs1⟩ := hs
    cases hk : pv.voteB zs0 b0
    · exact fnExactPivotalVoterw.law_small a0 zs0 c0 b0 a1 zs1 c1 0 false w hr0 hr1 hs0 hs1  (Lib.hid fun _ _ _ _ _ h k => pivotw.spec_novote _ _ _ _ _ _ _ _ h k (by omega) (by omega) hk) (Lib.hid fun _ _ _ _ _ h k => pivotw.impl_novote _ _ _ _ _ _ _ _ h k (by omega) (by omega) hk)
    by_cases hl : zs1.length = zs0.length
    · cases hx : permp.orderB zs0.length zs1
      · have hy : permp.permB zs0.length zs1 = false := by rw [← permq.order_perm_any]; exact hx
        exact fnExactPivotalVoterw.law_small a0 zs0 c0 b0 a1 zs1 c1 0 false w hr0 hr1 hs0 hs1  (Lib.hid fun _ _ _ _ _ h k => pivotw.spec_noorder _ _ _ _ _ _ _ _ h k (by omega) (by omega) hk hl hy) (Lib.hid fun _ _ _ _ _ h k => pivotw.impl_noorder _ _ _ _ _ _ _ _ h k (by omega) (by omega) hk hx)
      · exact fnExactPivotalVoterw.law_small a0 zs0 c0 b0 a1 zs1 c1 (permq.pivot zs0 b0 zs1) true w hr0 hr1 hs0 hs1  (Lib.hid fun _ _ _ _ _ h k => pivotw.spec_yes _ _ _ _ _ _ _ _ h k (by omega) (by omega) hk hx) (Lib.hid fun _ _ _ _ _ h k => pivotw.impl_yes _ _ _ _ _ _ _ _ h k (by omega) (by omega) hk hx)
    · exact fnExactPivotalVoterw.law_small a0 zs0 c0 b0 a1 zs1 c1 0 false w hr0 hr1 hs0 hs1  (Lib.hid fun _ _ _ _ _ h k => pivotw.spec_nolen _ _ _ _ _ _ _ _ h k (by omega) (by omega) hk hl) (Lib.hid fun _ _ _ _ _ h k => pivotw.impl_noorder _ _ _ _ _ _ _ _ h k (by omega) (by omega) hk (permp.order_len hl))
  · exact fnExactPivotalVoterw.law_big a0 zs0 c0 b0 a1 zs1 c1 w hr0 hr1 hl0 hl1 hs
end Go.Proofs.Ytobdapalllaceaa.fnExactPivotalVoterl
