/- The law FnExactWeightedMistakes: its walk, from the walks of the model's and the program's function. -/
import Derived.Test.YthohnnobahcdpaaFnExactWeightedMistakesW
import Derived.Test.YthohnnobahcdpaaWm
import Derived.Test.YthohnnobahcdpaaGrid
namespace Go.Proofs.Ythohnnobahcdpaa.fnExactWeightedMistakesl
open Go.RowKit own pp
set_option linter.unusedVariables false

theorem law (a0 : Option Addr) (rows0 : List (List Int)) (c0 : Nat) (e0 : Option Addr) (zs0 : List Int) (d0 : Nat) (a1 : Option Addr) (zs1 : List Int) (c1 : Nat) (a2 : Option Addr) (zs2 : List Int) (c2 : Nat) (b2 : Int) (w : World) (hr0 : grid.Reads w a0 rows0) (hm0 : ∀ r ∈ rows0, r.length ≤ maxLen ∧ ∀ z ∈ r, grid.Fits z) (hl0 : rows0.length ≤ maxLen) (hq0 : ints.Reads .i64 w e0 zs0) (hf0 : ∀ z ∈ zs0, grid.Fits z) (hk0 : zs0.length ≤ maxLen) (hr1 : ints.Reads .i64 w a1 zs1) (hf1 : ∀ i, i < zs1.length → -9223372036854775808 ≤ zs1.getD i 0 ∧ zs1.getD i 0 ≤ 9223372036854775807) (hl1 : zs1.length ≤ maxLen) (hr2 : ints.Reads .i64 w a2 zs2) (hf2 : ∀ z ∈ zs2, grid.Fits z) (hl2 : zs2.length ≤ maxLen) (hb2 : grid.Fits b2) :
    Calls Try.prog 5 #[.agg #[.slice a0 rows0.length c0, .slice e0 zs0.length d0], .slice a1 zs1.length c1, .agg #[.slice a2 zs2.length c2, .int .i64 b2]] w fun e w' => e = .returned (.bool true) ∧ Below w.heap.size w w' := by
  unfold maxLen at hl0 hl1 hl2 hk0 hm0
  by_cases hs : zs1.length ≤ 1048576 ∧ (rows0.length : Int) + (grid.tot rows0 : Int) + (zs0.length : Int) + (zs2.length : Int) ≤ 1048576
  · obtain ⟨hs0, hs1⟩ := hs
    cases hb : both.bothB rows0 zs0 zs2 b2
    · exact fnExactWeightedMistakesw.law_small a0 rows0 c0 e0 zs0 d0 a1 zs1 c1 a2 zs2 c2 b2 0 false w hr0 hq0 hr1 hr2 hs0 hs1  (Lib.hid fun _ _ _ _ _ _ _ _ w h hz hh hp => wm.spec_no1 _ rows0 _ _ zs0 _ _ zs1 _ _ zs2 _ b2 w h hz hh hp (by omega) (by omega) (by omega) (by omega) (fun r hr => by have := grid.len_le_tot rows0 r hr; omega) hb) (Lib.hid fun _ _ _ _ _ _ _ _ w h hz hh hp => wm.impl_no1 _ rows0 _ _ zs0 _ _ zs1 _ _ zs2 _ b2 w h hz hh hp (by omega) (by omega) (by omega) (by omega) (fun r hr => by have := grid.len_le_tot rows0 r hr; omega) hb)
    cases hf : hefts.heftsB rows0 zs1
    · exact fnExactWeightedMistakesw.law_small a0 rows0 c0 e0 zs0 d0 a1 zs1 c1 a2 zs2 c2 b2 0 false w hr0 hq0 hr1 hr2 hs0 hs1  (Lib.hid fun _ _ _ _ _ _ _ _ w h hz hh hp => wm.spec_no2 _ rows0 _ _ zs0 _ _ zs1 _ _ zs2 _ b2 w h hz hh hp (by omega) (by omega) (by omega) (by omega) (fun r hr => by have := grid.len_le_tot rows0 r hr; omega) hb hf) (Lib.hid fun _ _ _ _ _ _ _ _ w h hz hh hp => wm.impl_no2 _ rows0 _ _ zs0 _ _ zs1 _ _ zs2 _ b2 w h hz hh hp (by omega) (by omega) (by omega) (by omega) (fun r hr => by have := grid.len_le_tot rows0 r hr; omega) hb hf)
    · exact fnExactWeightedMistakesw.law_small a0 rows0 c0 e0 zs0 d0 a1 zs1 c1 a2 zs2 c2 b2 (wm.wmTo rows0 zs0 zs1 zs2 b2 rows0.length) true w hr0 hq0 hr1 hr2 hs0 hs1  (Lib.hid fun _ _ _ _ _ _ _ _ w h hz hh hp => wm.spec_yes _ rows0 _ _ zs0 _ _ zs1 _ _ zs2 _ b2 w h hz hh hp (by omega) (by omega) (by omega) (by omega) (fun r hr => by have := grid.len_le_tot rows0 r hr; omega) hb hf) (Lib.hid fun _ _ _ _ _ _ _ _ w h hz hh hp => wm.impl_yes _ rows0 _ _ zs0 _ _ zs1 _ _ zs2 _ b2 w h hz hh hp (by omega) (by omega) (by omega) (by omega) (fun r hr => by have := grid.len_le_tot rows0 r hr; omega) hb hf)
  · exact fnExactWeightedMistakesw.law_big a0 rows0 c0 e0 zs0 d0 a1 zs1 c1 a2 zs2 c2 b2 w hr0 hq0 hr1 hr2 hl0 (fun s hs => (hm0 s hs).1) hk0 hl1 hl2 hs
end Go.Proofs.Ythohnnobahcdpaa.fnExactWeightedMistakesl
