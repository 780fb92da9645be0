/- The law FnExactMeanPlane: its walk, from the walks of the model's and the program's function. -/
import Derived.Test.YtkbcofgigfnfaaaFnExactMeanPlaneW
import Derived.Test.YtkbcofgigfnfaaaMeanS
import Derived.Test.YtkbcofgigfnfaaaMeanI
import Derived.Test.YtkbcofgigfnfaaaGrid
namespace Go.Proofs.Ytkbcofgigfnfaaa.fnExactMeanPlanel
open Go.RowKit own pp
set_option linter.unusedVariables false

theorem law (a0 : Option Addr) (rows0 : List (List Int)) (c0 : Nat) (e0 : Option Addr) (zs0 : List Int) (d0 : Nat) (w : World) (hr0 : grid.Reads w a0 rows0) (hm0 : ∀ r ∈ rows0, r.length ≤ maxLen ∧ ∀ z ∈ r, grid.Fits z) (hl0 : rows0.length ≤ maxLen) (hq0 : ints.Reads .i64 w e0 zs0) (hf0 : ∀ z ∈ zs0, grid.Fits z) (hk0 : zs0.length ≤ maxLen) :
    Calls Try.prog 8 #[.agg #[.slice a0 rows0.length c0, .slice e0 zs0.length d0]] w fun e w' => e = .returned (.bool true) ∧ Below w.heap.size w w' := by
  unfold maxLen at hl0 hk0 hm0
  by_cases hs : (rows0.length : Int) + (grid.tot rows0 : Int) + (zs0.length : Int) ≤ 1048576
  · have hs0 := hs
    cases hk : width.mixB rows0 zs0
    · exact fnExactMeanPlanew.law_small a0 rows0 c0 e0 zs0 d0 [] 0 false w hr0 hq0 hs0 (by simp) (Lib.hid fun _ _ _ _ w hr hz => means.spec_mean_no _ rows0 _ _ zs0 _ w hr hz (by omega) (by omega) (fun r hr => by have := grid.len_le_tot rows0 r hr; omega) hk) (Lib.hid fun _ _ _ _ w hr hz => meani.impl_mean_no _ rows0 _ _ zs0 _ w hr hz (by omega) (by omega) (fun r hr => by have := grid.len_le_tot rows0 r hr; omega) hk)
    have hps := meanp.mix_dim hk
    exact fnExactMeanPlanew.law_small a0 rows0 c0 e0 zs0 d0 (meanp.mW (rows0.getD 0 []).length (meanp.sA rows0 zs0 1) (meanp.sA rows0 zs0 (-1))) (meanp.mD (meanp.sA rows0 zs0 1) (meanp.sA rows0 zs0 (-1))) true w hr0 hq0 hs0 (by rw [meanp.mW, mk.mk_length]; omega) (Lib.hid fun _ _ _ _ w hr hz => means.spec_mean_yes _ rows0 _ _ zs0 _ w hr hz (by omega) (by omega) (fun r hr => by have := grid.len_le_tot rows0 r hr; omega) hk) (Lib.hid fun _ _ _ _ w hr hz => meani.impl_mean_yes _ rows0 _ _ zs0 _ w hr hz (by omega) (by omega) (fun r hr => by have := grid.len_le_tot rows0 r hr; omega) hk)
  · exact fnExactMeanPlanew.law_big a0 rows0 c0 e0 zs0 d0 w hr0 hq0 hl0 (fun s hs => (hm0 s hs).1) hk0 hs
end Go.Proofs.Ytkbcofgigfnfaaa.fnExactMeanPlanel
