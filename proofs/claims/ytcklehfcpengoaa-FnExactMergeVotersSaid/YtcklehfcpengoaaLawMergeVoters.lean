/- The law FnExactMergeVoters: its walk, from the walks of the model's and the program's function. -/
import Derived.Test.YtcklehfcpengoaaFnExactMergeVotersW
import Derived.Test.YtcklehfcpengoaaMergeS
import Derived.Test.YtcklehfcpengoaaMergeI
import Derived.Test.YtcklehfcpengoaaGrid
namespace Go.Proofs.Ytcklehfcpengoaa.fnExactMergeVotersl
open Go.RowKit own pp
set_option linter.unusedVariables false

theorem law (a0 : Option Addr) (zs0 : List Int) (c0 : Nat) (b0 : Int) (n1 : Int) (n2 : Int) (w : World) (hr0 : ints.Reads .i64 w a0 zs0) (hf0 : ∀ z ∈ zs0, grid.Fits z) (hl0 : zs0.length ≤ maxLen) (hb0 : grid.Fits b0) (hn1 : (Lit.int .i64 n1).wf = true) (hn2 : (Lit.int .i64 n2).wf = true) :
    Calls Try.prog 7 #[.agg #[.slice a0 zs0.length c0, .int .i64 b0], .int .i64 n1, .int .i64 n2] w fun e w' => e = .returned (.bool true) ∧ Below w.heap.size w w' := by
  unfold maxLen at hl0 
  by_cases hs : (zs0.length : Int) ≤ 1048576
  · have hs0 := hs
    cases hk : voter.voterB zs0 b0 n1
    · exact fnExactMergeVotersw.law_small a0 zs0 c0 b0 n1 n2 [] 0 false w hr0 hs0 (by simp) (Lib.hid fun _ _ _ h => merges.spec_no1 _ _ _ _ _ h (by omega) _ _ (Lib.hid hk)) (Lib.hid fun _ _ _ h => mergei.impl_no1 _ _ _ _ _ h (by omega) _ _ (Lib.hid hk))
    cases hk2 : voter.voterB zs0 b0 n2
    · exact fnExactMergeVotersw.law_small a0 zs0 c0 b0 n1 n2 [] 0 false w hr0 hs0 (by simp) (Lib.hid fun _ _ _ h => merges.spec_no2 _ _ _ _ _ h (by omega) _ _ (Lib.hid hk) (Lib.hid hk2)) (Lib.hid fun _ _ _ h => mergei.impl_no2 _ _ _ _ _ h (by omega) _ _ (Lib.hid hk) (Lib.hid hk2))
    by_cases hne : n1 = n2
    · subst hne
      exact fnExactMergeVotersw.law_small a0 zs0 c0 b0 n1 n1 [] 0 false w hr0 hs0 (by simp) (Lib.hid fun _ _ _ h => merges.spec_no3 _ _ _ _ _ h (by omega) _ (Lib.hid hk)) (Lib.hid fun _ _ _ h => mergei.impl_no3 _ _ _ _ _ h (by omega) _ (Lib.hid hk))
    have h18 := ((pv.vote_iff _ _).1 ((voter.voter_iff _ _ _).1 hk).1).1
    have hl := mergep.merge_length_le zs0 n1.toNat n2.toNat zs0.length
    cases hp : pv.voteB (mergep.mergeTo zs0 n1.toNat n2.toNat zs0.length) b0
    · exact fnExactMergeVotersw.law_small a0 zs0 c0 b0 n1 n2 [] 0 false w hr0 hs0 (by simp) (Lib.hid fun _ _ _ h => merges.spec_out _ _ _ _ _ h (by omega) _ _ (Lib.hid hk) (Lib.hid hk2) hne hp) (Lib.hid fun _ _ _ h => mergei.impl_out _ _ _ _ _ h (by omega) _ _ (Lib.hid hk) (Lib.hid hk2) hne hp)
    · exact fnExactMergeVotersw.law_small a0 zs0 c0 b0 n1 n2 (mergep.mergeTo zs0 n1.toNat n2.toNat zs0.length) b0 true w hr0 hs0 (by omega) (Lib.hid fun _ _ _ h => merges.spec_yes _ _ _ _ _ h (by omega) _ _ (Lib.hid hk) (Lib.hid hk2) hne hp) (Lib.hid fun _ _ _ h => mergei.impl_yes _ _ _ _ _ h (by omega) _ _ (Lib.hid hk) (Lib.hid hk2) hne hp)
  · exact fnExactMergeVotersw.law_big a0 zs0 c0 b0 n1 n2 w hr0 hl0 hs
end Go.Proofs.Ytcklehfcpengoaa.fnExactMergeVotersl
