/- The law FnExactSameWins: its walk, from the walks of the model's and the program's function. -/
import Derived.Test.YtplhcboecjegjaaFnExactSameWinsW
import Derived.Test.YtplhcboecjegjaaSameS
import Derived.Test.YtplhcboecjegjaaSameI
import Derived.Test.YtplhcboecjegjaaGrid
namespace Go.Proofs.Ytplhcboecjegjaa.fnExactSameWinsl
open Go.RowKit own pp outc
set_option linter.unusedVariables false

theorem law (a0 : Option Addr) (zs0 : List Int) (c0 : Nat) (b0 : Int) (a1 : Option Addr) (zs1 : List Int) (c1 : Nat) (b1 : Int) (w : World) (hr0 : ints.Reads .i64 w a0 zs0) (hf0 : ∀ z ∈ zs0, grid.Fits z) (hl0 : zs0.length ≤ maxLen) (hb0 : grid.Fits b0) (hr1 : ints.Reads .i64 w a1 zs1) (hf1 : ∀ z ∈ zs1, grid.Fits z) (hl1 : zs1.length ≤ maxLen) (hb1 : grid.Fits b1) :
    Calls Try.prog 5 #[.agg #[.slice a0 zs0.length c0, .int .i64 b0], .agg #[.slice a1 zs1.length c1, .int .i64 b1]] w fun e w' => e = .returned (.bool true) ∧ Below w.heap.size w w' := by
  unfold maxLen at hl0 hl1 
  by_cases hs : (zs0.length : Int) + (zs1.length : Int) ≤ 1048576
  · have hs0 := hs
    cases hk0 : pv.voteB zs0 b0
    · cases hk1 : pv.voteB zs1 b1
      · exact fnExactSameWinsw.law_small a0 zs0 c0 b0 a1 zs1 c1 b1 false false w hr0 hr1 hs0  (Lib.hid fun _ _ _ _ _ h k => sames.spec_no1 _ _ _ _ _ _ _ _ _ h k (by omega) (by omega) (Lib.hid hk0)) (Lib.hid fun _ _ _ _ _ h k => samei.impl_no1 _ _ _ _ _ _ _ _ _ h k (by omega) (by omega) (.inr ⟨hk0, rfl, rfl, rfl⟩) (.inr ⟨hk1, rfl, rfl, rfl⟩))
      · exact fnExactSameWinsw.law_small a0 zs0 c0 b0 a1 zs1 c1 b1 false false w hr0 hr1 hs0  (Lib.hid fun _ _ _ _ _ h k => sames.spec_no1 _ _ _ _ _ _ _ _ _ h k (by omega) (by omega) (Lib.hid hk0)) (Lib.hid fun _ _ _ _ _ h k => samei.impl_no1 _ _ _ _ _ _ _ _ _ h k (by omega) (by omega) (.inr ⟨hk0, rfl, rfl, rfl⟩) (.inl ⟨hk1, rfl, rfl, rfl⟩))
    cases hk1 : pv.voteB zs1 b1
    · exact fnExactSameWinsw.law_small a0 zs0 c0 b0 a1 zs1 c1 b1 false false w hr0 hr1 hs0  (Lib.hid fun _ _ _ _ _ h k => sames.spec_no2 _ _ _ _ _ _ _ _ _ h k (by omega) (by omega) (Lib.hid hk0) (Lib.hid hk1)) (Lib.hid fun _ _ _ _ _ h k => samei.impl_no2 _ _ _ _ _ _ _ _ _ h k (by omega) (by omega) (.inl ⟨hk0, rfl, rfl, rfl⟩) (.inr ⟨hk1, rfl, rfl, rfl⟩))
    by_cases hl : zs1.length = zs0.length
    · exact fnExactSameWinsw.law_small a0 zs0 c0 b0 a1 zs1 c1 b1 (sames.sameB (wins.winB zs0 b0) (wins.winB zs1 b1) (2 ^ zs0.length)) true w hr0 hr1 hs0  (Lib.hid fun _ _ _ _ _ h k => sames.spec_yes _ _ _ _ _ _ _ _ _ h k (by omega) (by omega) (Lib.hid hk0) (Lib.hid hk1) (Lib.hid hl)) (Lib.hid fun _ _ _ _ _ h k => samei.impl_yes _ _ _ _ _ _ _ _ _ h k (by omega) (by omega) (.inl ⟨hk0, rfl, rfl, rfl⟩) (.inl ⟨hk1, hl.symm, rfl, rfl⟩))
    · exact fnExactSameWinsw.law_small a0 zs0 c0 b0 a1 zs1 c1 b1 false false w hr0 hr1 hs0  (Lib.hid fun _ _ _ _ _ h k => sames.spec_no3 _ _ _ _ _ _ _ _ _ h k (by omega) (by omega) (Lib.hid hk0) (Lib.hid hk1) (by omega)) (Lib.hid fun _ _ _ _ _ h k => samei.impl_no3 _ _ _ _ _ _ _ _ _ h k (by omega) (by omega) (.inl ⟨hk0, rfl, rfl, rfl⟩) (.inl ⟨hk1, rfl, rfl, rfl⟩) (by rw [bne_iff_ne]; omega))
  · exact fnExactSameWinsw.law_big a0 zs0 c0 b0 a1 zs1 c1 b1 w hr0 hr1 hl0 hl1 hs
end Go.Proofs.Ytplhcboecjegjaa.fnExactSameWinsl
