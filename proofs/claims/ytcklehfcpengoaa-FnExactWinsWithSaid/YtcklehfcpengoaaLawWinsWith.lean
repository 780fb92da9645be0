/- The law FnExactWinsWith: its walk, from the walks of the model's and the program's function. -/
import Derived.Test.YtcklehfcpengoaaFnExactWinsWithW
import Derived.Test.YtcklehfcpengoaaWinsW
import Derived.Test.YtcklehfcpengoaaGrid
namespace Go.Proofs.Ytcklehfcpengoaa.fnExactWinsWithl
open Go.RowKit own pp
set_option linter.unusedVariables false

theorem law (a0 : Option Addr) (zs0 : List Int) (c0 : Nat) (b0 : Int) (a1 : Option Addr) (zs1 : List Int) (c1 : Nat) (w : World) (hr0 : ints.Reads .i64 w a0 zs0) (hf0 : ∀ z ∈ zs0, grid.Fits z) (hl0 : zs0.length ≤ maxLen) (hb0 : grid.Fits b0) (hr1 : ints.Reads .i64 w a1 zs1) (hf1 : ∀ i, i < zs1.length → -9223372036854775808 ≤ zs1.getD i 0 ∧ zs1.getD i 0 ≤ 9223372036854775807) (hl1 : zs1.length ≤ maxLen) :
    Calls Try.prog 4 #[.agg #[.slice a0 zs0.length c0, .int .i64 b0], .slice a1 zs1.length c1] w fun e w' => e = .returned (.bool true) ∧ Below w.heap.size w w' := by
  unfold maxLen at hl0 hl1 
  by_cases hs : zs1.length ≤ 1048576 ∧ (zs0.length : Int) ≤ 1048576
  · obtain ⟨hs0, hs1⟩ := hs
    cases hk : pv.voteB zs0 b0
    · have hs : winsw.setB zs0 b0 zs1 = false := by unfold winsw.setB; rw [hk]; rfl
      exact fnExactWinsWithw.law_small a0 zs0 c0 b0 a1 zs1 c1 false false w hr0 hr1 hs0 hs1  (Lib.hid fun _ _ _ _ _ h k => winsw.spec_no _ _ _ _ _ _ _ _ h k (by omega) (by omega) hs) (Lib.hid fun _ _ _ _ _ h k => winsw.impl_novote _ _ _ _ _ _ _ _ h k (by omega) (by omega) hk)
    cases hx : rising.risesB (zs0.length : Int) zs1
    · have hs : winsw.setB zs0 b0 zs1 = false := by unfold winsw.setB; rw [hx, Bool.and_false]
      exact fnExactWinsWithw.law_small a0 zs0 c0 b0 a1 zs1 c1 false false w hr0 hr1 hs0 hs1  (Lib.hid fun _ _ _ _ _ h k => winsw.spec_no _ _ _ _ _ _ _ _ h k (by omega) (by omega) hs) (Lib.hid fun _ _ _ _ _ h k => winsw.impl_noset _ _ _ _ _ _ _ _ h k (by omega) (by omega) hk hx)
    · have hs : winsw.setB zs0 b0 zs1 = true := by unfold winsw.setB; rw [hk, hx]; rfl
      have he : decide (b0 ≤ pw.sumP zs0 zs1 zs1.length) = wins.winB zs0 b0 (pw.codeTo zs1 zs1.length) := by unfold wins.winB; rw [pw.code_dot ((pv.vote_iff _ _).1 hk).1.2 hx _ (Nat.le_refl _)]
      exact fnExactWinsWithw.law_small a0 zs0 c0 b0 a1 zs1 c1 (wins.winB zs0 b0 (pw.codeTo zs1 zs1.length)) true w hr0 hr1 hs0 hs1  (Lib.hid fun _ _ _ _ _ h k => winsw.spec_yes _ _ _ _ _ _ _ _ h k (by omega) (by omega) hs) (Lib.hid fun _ _ _ _ _ h k => by rw [← he]; exact winsw.impl_yes _ _ _ _ _ _ _ _ h k (by omega) (by omega) hk hx)
  · exact fnExactWinsWithw.law_big a0 zs0 c0 b0 a1 zs1 c1 w hr0 hr1 hl0 hl1 hs
end Go.Proofs.Ytcklehfcpengoaa.fnExactWinsWithl
