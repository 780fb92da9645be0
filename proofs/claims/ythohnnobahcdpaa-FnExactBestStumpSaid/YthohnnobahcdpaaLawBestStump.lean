/- The law FnExactBestStump: its walk, from the walks of the model's and the program's function. -/
import Derived.Test.YthohnnobahcdpaaFnExactBestStumpW
import Derived.Test.YthohnnobahcdpaaBestI
import Derived.Test.YthohnnobahcdpaaGrid
namespace Go.Proofs.Ythohnnobahcdpaa.fnExactBestStumpl
open Go.RowKit own pp
set_option linter.unusedVariables false

theorem law (a0 : Option Addr) (rows0 : List (List Int)) (c0 : Nat) (e0 : Option Addr) (zs0 : List Int) (d0 : Nat) (a1 : Option Addr) (zs1 : List Int) (c1 : Nat) (w : World) (hr0 : grid.Reads w a0 rows0) (hm0 : ∀ r ∈ rows0, r.length ≤ maxLen ∧ ∀ z ∈ r, grid.Fits z) (hl0 : rows0.length ≤ maxLen) (hq0 : ints.Reads .i64 w e0 zs0) (hf0 : ∀ z ∈ zs0, grid.Fits z) (hk0 : zs0.length ≤ maxLen) (hr1 : ints.Reads .i64 w a1 zs1) (hf1 : ∀ i, i < zs1.length → -9223372036854775808 ≤ zs1.getD i 0 ∧ zs1.getD i 0 ≤ 9223372036854775807) (hl1 : zs1.length ≤ maxLen) :
    Calls Try.prog 6 #[.agg #[.slice a0 rows0.length c0, .slice e0 zs0.length d0], .slice a1 zs1.length c1] w fun e w' => e = .returned (.bool true) ∧ Below w.heap.size w w' := by
  unfold maxLen at hl0 hl1 hk0 hm0
  by_cases hs : zs1.length ≤ 1048576 ∧ (rows0.length : Int) + (grid.tot rows0 : Int) + (zs0.length : Int) ≤ 1048576
  · obtain ⟨hs0, hs1⟩ := hs
    cases hp : margin.hpB rows0 zs0
    · exact fnExactBestStumpw.law_small a0 rows0 c0 e0 zs0 d0 a1 zs1 c1 [] 0 false w hr0 hq0 hr1 hs0 hs1 (by simp) (Lib.hid fun _ _ _ _ _ _ w hr hz hh => besti.spec_no1 _ rows0 _ _ zs0 _ _ zs1 _ w hr hz hh (by omega) (by omega) (fun r hr => by have := grid.len_le_tot rows0 r hr; omega) (by omega) hp) (Lib.hid fun _ _ _ _ _ _ w hr hz hh => besti.impl_best_no1 _ rows0 _ _ zs0 _ _ zs1 _ w hr hz hh (by omega) (by omega) (fun r hr => by have := grid.len_le_tot rows0 r hr; omega) (by omega) hp)
    cases hf : hefts.heftsB rows0 zs1
    · exact fnExactBestStumpw.law_small a0 rows0 c0 e0 zs0 d0 a1 zs1 c1 [] 0 false w hr0 hq0 hr1 hs0 hs1 (by simp) (Lib.hid fun _ _ _ _ _ _ w hr hz hh => besti.spec_no2 _ rows0 _ _ zs0 _ _ zs1 _ w hr hz hh (by omega) (by omega) (fun r hr => by have := grid.len_le_tot rows0 r hr; omega) (by omega) hp hf) (Lib.hid fun _ _ _ _ _ _ w hr hz hh => besti.impl_best_no2 _ rows0 _ _ zs0 _ _ zs1 _ w hr hz hh (by omega) (by omega) (fun r hr => by have := grid.len_le_tot rows0 r hr; omega) (by omega) hp hf)
    have h4 := ((planeB_iff _ _).1 ((both.bothB_iff _ _ _ _).1 (bestp.stump_both hp _ (bestp.best_mem hp zs1))).2.1).2.1
    exact fnExactBestStumpw.law_small a0 rows0 c0 e0 zs0 d0 a1 zs1 c1 (bestp.bestX rows0 zs0 zs1).1 (bestp.bestX rows0 zs0 zs1).2 true w hr0 hq0 hr1 hs0 hs1 (by have := h4; omega) (Lib.hid fun _ _ _ _ _ _ w hr hz hh => besti.spec_yes _ rows0 _ _ zs0 _ _ zs1 _ w hr hz hh (by omega) (by omega) (fun r hr => by have := grid.len_le_tot rows0 r hr; omega) (by omega) hp hf) (Lib.hid fun _ _ _ _ _ _ w hr hz hh => besti.impl_best_yes _ rows0 _ _ zs0 _ _ zs1 _ w hr hz hh (by omega) (by omega) (fun r hr => by have := grid.len_le_tot rows0 r hr; omega) (by omega) hp hf)
  · exact fnExactBestStumpw.law_big a0 rows0 c0 e0 zs0 d0 a1 zs1 c1 w hr0 hq0 hr1 hl0 (fun s hs => (hm0 s hs).1) hk0 hl1 hs
end Go.Proofs.Ythohnnobahcdpaa.fnExactBestStumpl
