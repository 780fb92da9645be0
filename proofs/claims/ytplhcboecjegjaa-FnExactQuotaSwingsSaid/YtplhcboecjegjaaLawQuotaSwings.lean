/- The law FnExactQuotaSwings: its walk, from the walks of the model's and the program's function. -/
import Derived.Test.YtplhcboecjegjaaFnExactQuotaSwingsW
import Derived.Test.YtplhcboecjegjaaQuotaS
import Derived.Test.YtplhcboecjegjaaQuotaI
import Derived.Test.YtplhcboecjegjaaGrid
namespace Go.Proofs.Ytplhcboecjegjaa.fnExactQuotaSwingsl
open Go.RowKit own pp
set_option linter.unusedVariables false

theorem law (a0 : Option Addr) (zs0 : List Int) (c0 : Nat) (b0 : Int) (n1 : Int) (w : World) (hr0 : ints.Reads .i64 w a0 zs0) (hf0 : ∀ z ∈ zs0, grid.Fits z) (hl0 : zs0.length ≤ maxLen) (hb0 : grid.Fits b0) (hn1 : (Lit.int .i64 n1).wf = true) :
    Calls Try.prog 6 #[.agg #[.slice a0 zs0.length c0, .int .i64 b0], .int .i64 n1] w fun e w' => e = .returned (.bool true) ∧ Below w.heap.size w w' := by
  unfold maxLen at hl0 
  by_cases hs : (zs0.length : Int) ≤ 1048576
  · have hs0 := hs
    cases hk : voter.voterB zs0 b0 n1
    · exact fnExactQuotaSwingsw.law_small a0 zs0 c0 b0 n1 [] false w hr0 hs0 (by simp) (Lib.hid fun _ _ _ h => quotas.spec_no _ _ _ _ _ h (by omega) _ (Lib.hid hk)) (Lib.hid fun _ _ _ h => quotai.impl_no _ _ _ _ _ h (by omega) _ (Lib.hid hk))
    have hs := pv.vote_sum ((voter.voter_iff _ _ _).1 hk).1
    exact fnExactQuotaSwingsw.law_small a0 zs0 c0 b0 n1 (quotap.quotas zs0 n1.toNat (pv.sumZ zs0).toNat) true w hr0 hs0 (by unfold quotap.quotas; rw [mk.mk_length]; omega) (Lib.hid fun _ _ _ h => quotas.spec_yes _ _ _ _ _ h (by omega) _ (Lib.hid hk)) (Lib.hid fun _ _ _ h => quotai.impl_yes _ _ _ _ _ h (by omega) _ (Lib.hid hk))
  · exact fnExactQuotaSwingsw.law_big a0 zs0 c0 b0 n1 w hr0 hl0 hs
end Go.Proofs.Ytplhcboecjegjaa.fnExactQuotaSwingsl
