/- The law FnExactGreatestLosses: its walk, from the walks of the model's and the program's function. -/
import Derived.Test.YtobdapalllaceaaFnExactGreatestLossesW
import Derived.Test.YtobdapalllaceaaEdges
import Derived.Test.YtobdapalllaceaaSetsW
import Derived.Test.YtobdapalllaceaaGrid
namespace Go.Proofs.Ytobdapalllaceaa.fnExactGreatestLossesl
open Go.RowKit own pp
set_option linter.unusedVariables false

theorem law (a0 : Option Addr) (zs0 : List Int) (c0 : Nat) (b0 : Int) (w : World) (hr0 : ints.Reads .i64 w a0 zs0) (hf0 : ∀ z ∈ zs0, grid.Fits z) (hl0 : zs0.length ≤ maxLen) (hb0 : grid.Fits b0) :
    Calls Try.prog 6 #[.agg #[.slice a0 zs0.length c0, .int .i64 b0]] w fun e w' => e = .returned (.bool true) ∧ Below w.heap.size w w' := by
  unfold maxLen at hl0 
  by_cases hs : (zs0.length : Int) ≤ 1048576
  · have hs0 := hs
    cases hk : pv.voteB zs0 b0
    · exact fnExactGreatestLossesw.law_small a0 zs0 c0 b0 [] false w hr0 hs0 (by simp [grid.tot]) (Lib.hid fun _ _ _ h => edges.gl_spec_no _ _ _ _ _ h (by omega) hk) (Lib.hid fun _ _ _ h => setsw.gl_impl_no _ _ _ _ _ h (by omega) (.inr ⟨hk, rfl, rfl, rfl⟩))
    have h18 := ((pv.vote_iff _ _).1 hk).1
    have hbd := edges.ord_size (wins.winB zs0 b0) false h18.2
    exact fnExactGreatestLossesw.law_small a0 zs0 c0 b0 (edges.ordTo (wins.winB zs0 b0) zs0.length false (2 ^ zs0.length)) true w hr0 hs0 hbd (Lib.hid fun _ _ _ h => edges.gl_spec_yes _ _ _ _ _ h (by omega) hk) (Lib.hid fun _ _ _ h => by rw [← edges.ord_upto h18.2]; exact setsw.gl_impl_yes _ _ _ _ _ h (by omega) (.inl ⟨hk, rfl, rfl, rfl⟩))
  · exact fnExactGreatestLossesw.law_big a0 zs0 c0 b0 w hr0 hl0 hs
end Go.Proofs.Ytobdapalllaceaa.fnExactGreatestLossesl
