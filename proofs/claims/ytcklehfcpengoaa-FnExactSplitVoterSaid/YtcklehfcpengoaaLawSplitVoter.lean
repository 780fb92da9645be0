/- The law FnExactSplitVoter: its walk, from the walks of the model's and the program's function. -/
import Derived.Test.YtcklehfcpengoaaFnExactSplitVoterW
import Derived.Test.YtcklehfcpengoaaSplitI
import Derived.Test.YtcklehfcpengoaaGrid
namespace Go.Proofs.Ytcklehfcpengoaa.fnExactSplitVoterl
open Go.RowKit own pp
set_option linter.unusedVariables false

theorem law (a0 : Option Addr) (zs0 : List Int) (c0 : Nat) (b0 : Int) (n1 : Int) (n2 : Int) (w : World) (hr0 : ints.Reads .i64 w a0 zs0) (hf0 : ∀ z ∈ zs0, grid.Fits z) (hl0 : zs0.length ≤ maxLen) (hb0 : grid.Fits b0) (hn1 : (Lit.int .i64 n1).wf = true) (hn2 : (Lit.int .i64 n2).wf = true) :
    Calls Try.prog 8 #[.agg #[.slice a0 zs0.length c0, .int .i64 b0], .int .i64 n1, .int .i64 n2] w fun e w' => e = .returned (.bool true) ∧ Below w.heap.size w w' := by
  unfold maxLen at hl0 
  by_cases hs : (zs0.length : Int) ≤ 1048576
  · have hs0 := hs
    cases hk : voter.voterB zs0 b0 n1
    · exact fnExactSplitVoterw.law_small a0 zs0 c0 b0 n1 n2 [] 0 false w hr0 hs0 (by simp) (Lib.hid fun _ _ _ h => splitv.spec_no _ _ _ _ _ h (by omega) _ _ (Lib.hid hk)) (Lib.hid fun _ _ _ h => spliti.impl_no _ _ _ _ _ h (by omega) _ _ (Lib.hid hk))
    obtain ⟨hv, hi0, hi1⟩ := (voter.voter_iff _ _ _).1 hk
    have h18 := ((pv.vote_iff _ _).1 hv).1
    have hf2 : -9223372036854775808 ≤ n2 ∧ n2 ≤ 9223372036854775807 := by simpa [Lit.wf, IntKind.min, IntKind.max, IntKind.signed, IntKind.bits] using hn2
    have hk1 : n1.toNat < zs0.length := by omega
    cases hp : (decide (0 ≤ n2) && decide (n2 ≤ zs0.getD n1.toNat 0))
    · exact fnExactSplitVoterw.law_small a0 zs0 c0 b0 n1 n2 [] 0 false w hr0 hs0 (by simp) (Lib.hid fun _ _ _ h => splitv.spec_part _ _ _ _ _ h (by omega) _ _ (Lib.hid hk) hp) (Lib.hid fun _ _ _ h => spliti.impl_out _ _ _ _ _ h (by omega) _ _ (Lib.hid hk) (splitp.split_no hv hk1 hf2 (.inl hp)))
    by_cases hl : 8 ≤ zs0.length
    · exact fnExactSplitVoterw.law_small a0 zs0 c0 b0 n1 n2 [] 0 false w hr0 hs0 (by simp) (Lib.hid fun _ _ _ h => splitv.spec_full _ _ _ _ _ h (by omega) _ _ (Lib.hid hk) hp hl) (Lib.hid fun _ _ _ h => spliti.impl_out _ _ _ _ _ h (by omega) _ _ (Lib.hid hk) (splitp.split_no hv hk1 hf2 (.inr hl)))
    have hp2 : 0 ≤ n2 ∧ n2 ≤ zs0.getD n1.toNat 0 := by simpa using hp
    have hx := pv.vote_at hv n1.toNat hk1
    have ew : IntKind.i64.wrap (zs0.getD n1.toNat 0 - n2) = zs0.getD n1.toNat 0 - n2 := IntWalk.i64_in _ (by omega)
    have hy := splitp.split_yes hv hk1 hp2.1 hp2.2 (by omega)
    rw [← ew] at hy
    exact fnExactSplitVoterw.law_small a0 zs0 c0 b0 n1 n2 ((zs0 ++ [zs0.getD n1.toNat 0 - n2]).set n1.toNat n2) b0 true w hr0 hs0 (by simp; omega) (Lib.hid fun _ _ _ h => splitv.spec_yes _ _ _ _ _ h (by omega) _ _ (Lib.hid hk) hp (by omega)) (Lib.hid fun _ _ _ h => by rw [← ew]; exact spliti.impl_yes _ _ _ _ _ h (by omega) _ _ (Lib.hid hk) hy)
  · exact fnExactSplitVoterw.law_big a0 zs0 c0 b0 n1 n2 w hr0 hl0 hs
end Go.Proofs.Ytcklehfcpengoaa.fnExactSplitVoterl
