/- The law FnExactKeepsLabels: its walk, from the walks of the model's and the program's function. -/
import Derived.Test.YtkbcofgigfnfaaaFnExactKeepsLabelsW
import Derived.Test.YtkbcofgigfnfaaaKeeps
import Derived.Test.YtkbcofgigfnfaaaGrid
namespace Go.Proofs.Ytkbcofgigfnfaaa.fnExactKeepsLabelsl
open Go.RowKit own pp
set_option linter.unusedVariables false

theorem law (a0 : Option Addr) (rows0 : List (List Int)) (c0 : Nat) (e0 : Option Addr) (zs0 : List Int) (d0 : Nat) (a1 : Option Addr) (zs1 : List Int) (c1 : Nat) (w : World) (hr0 : grid.Reads w a0 rows0) (hm0 : ∀ r ∈ rows0, r.length ≤ maxLen ∧ ∀ z ∈ r, grid.Fits z) (hl0 : rows0.length ≤ maxLen) (hq0 : ints.Reads .i64 w e0 zs0) (hf0 : ∀ z ∈ zs0, grid.Fits z) (hk0 : zs0.length ≤ maxLen) (hr1 : ints.Reads .i64 w a1 zs1) (hf1 : ∀ i, i < zs1.length → -9223372036854775808 ≤ zs1.getD i 0 ∧ zs1.getD i 0 ≤ 9223372036854775807) (hl1 : zs1.length ≤ maxLen) :
    Calls Try.prog 6 #[.agg #[.slice a0 rows0.length c0, .slice e0 zs0.length d0], .slice a1 zs1.length c1] w fun e w' => e = .returned (.bool true) ∧ Below w.heap.size w w' := by
  unfold maxLen at hl0 hl1 hk0 hm0
  by_cases hs : zs1.length ≤ 1048576 ∧ (rows0.length : Int) + (grid.tot rows0 : Int) + (zs0.length : Int) ≤ 1048576
  · obtain ⟨hs0, hs1⟩ := hs
    cases hk : keeps.klB rows0 zs0 zs1
    · exact fnExactKeepsLabelsw.law_small a0 rows0 c0 e0 zs0 d0 a1 zs1 c1 false false w hr0 hq0 hr1 hs0 hs1  (Lib.hid fun _ _ _ _ _ _ w hr hz hp => keeps.spec_kl_no _ rows0 _ _ zs0 _ _ zs1 _ w hr hz hp (by omega) (by omega) (fun r hr => by have := grid.len_le_tot rows0 r hr; omega) (by omega) hk) (Lib.hid fun _ _ _ _ _ _ w hr hz hp => keeps.impl_kl_no _ rows0 _ _ zs0 _ _ zs1 _ w hr hz hp (by omega) (by omega) (fun r hr => by have := grid.len_le_tot rows0 r hr; omega) (by omega) hk)
    · exact fnExactKeepsLabelsw.law_small a0 rows0 c0 e0 zs0 d0 a1 zs1 c1 (keeps.keepsB rows0 zs0 zs1) true w hr0 hq0 hr1 hs0 hs1  (Lib.hid fun _ _ _ _ _ _ w hr hz hp => keeps.spec_kl_yes _ rows0 _ _ zs0 _ _ zs1 _ w hr hz hp (by omega) (by omega) (fun r hr => by have := grid.len_le_tot rows0 r hr; omega) (by omega) hk) (Lib.hid fun _ _ _ _ _ _ w hr hz hp => keeps.impl_kl_yes _ rows0 _ _ zs0 _ _ zs1 _ w hr hz hp (by omega) (by omega) (fun r hr => by have := grid.len_le_tot rows0 r hr; omega) (by omega) hk)
  · exact fnExactKeepsLabelsw.law_big a0 rows0 c0 e0 zs0 d0 a1 zs1 c1 w hr0 hq0 hr1 hl0 (fun s hs => (hm0 s hs).1) hk0 hl1 hs
end Go.Proofs.Ytkbcofgigfnfaaa.fnExactKeepsLabelsl
