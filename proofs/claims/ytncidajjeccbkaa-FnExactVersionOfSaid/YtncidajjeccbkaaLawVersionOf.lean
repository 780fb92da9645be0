/- The law FnExactVersionOf: its walk, from the walks of the model's and the program's function. -/
import Derived.Test.YtncidajjeccbkaaFnExactVersionOfW
import Derived.Test.YtncidajjeccbkaaVers
import Derived.Test.YtncidajjeccbkaaGrid
namespace Go.Proofs.Ytncidajjeccbkaa.fnExactVersionOfl
open Go.RowKit own pp
set_option linter.unusedVariables false

theorem law (a0 : Option Addr) (rows0 : List (List Int)) (c0 : Nat) (a1 : Option Addr) (zs1 : List Int) (c1 : Nat) (a2 : Option Addr) (zs2 : List Int) (c2 : Nat) (w : World) (hr0 : grid.Reads w a0 rows0) (hm0 : ∀ r ∈ rows0, r.length ≤ maxLen ∧ ∀ z ∈ r, grid.Fits z) (hl0 : rows0.length ≤ maxLen) (hr1 : ints.Reads .i64 w a1 zs1) (hf1 : ∀ i, i < zs1.length → -9223372036854775808 ≤ zs1.getD i 0 ∧ zs1.getD i 0 ≤ 9223372036854775807) (hl1 : zs1.length ≤ maxLen) (hr2 : ints.Reads .i64 w a2 zs2) (hf2 : ∀ i, i < zs2.length → -9223372036854775808 ≤ zs2.getD i 0 ∧ zs2.getD i 0 ≤ 9223372036854775807) (hl2 : zs2.length ≤ maxLen) :
    Calls Try.prog 12 #[.slice a0 rows0.length c0, .slice a1 zs1.length c1, .slice a2 zs2.length c2] w fun e w' => e = .returned (.bool true) ∧ Below w.heap.size w w' := by
  unfold maxLen at hl0 hl1 hl2 hm0
  by_cases hs : zs1.length ≤ 1048576 ∧ zs2.length ≤ 1048576 ∧ (rows0.length : Int) + (grid.tot rows0 : Int) ≤ 1048576
  · obtain ⟨hs0, hs1, hs2⟩ := hs
    cases hk : classt.setB rows0 zs1
    · exact fnExactVersionOfw.law_small a0 rows0 c0 a1 zs1 c1 a2 zs2 c2 [] false w hr0 hr1 hr2 hs0 hs1 hs2 (by simp) (Lib.hid fun _ _ _ _ _ _ _ h k l => vers.spec_no1 _ _ _ _ _ _ _ _ _ _ h k l (by omega) (fun r hr => by have := grid.len_le_tot rows0 r hr; omega) (by omega) (by omega) hk) (Lib.hid fun _ _ _ _ _ _ _ h k l => vers.impl_no1 _ _ _ _ _ _ _ _ _ _ h k l (by omega) (fun r hr => by have := grid.len_le_tot rows0 r hr; omega) (by omega) (by omega) hk)
    by_cases hne : zs2.length = zs1.length
    · cases hb2 : labelsB zs2
      · exact fnExactVersionOfw.law_small a0 rows0 c0 a1 zs1 c1 a2 zs2 c2 [] false w hr0 hr1 hr2 hs0 hs1 hs2 (by simp) (Lib.hid fun _ _ _ _ _ _ _ h k l => vers.spec_no3 _ _ _ _ _ _ _ _ _ _ h k l (by omega) (fun r hr => by have := grid.len_le_tot rows0 r hr; omega) (by omega) (by omega) hk hne hb2) (Lib.hid fun _ _ _ _ _ _ _ h k l => vers.impl_no3 _ _ _ _ _ _ _ _ _ _ h k l (by omega) (fun r hr => by have := grid.len_le_tot rows0 r hr; omega) (by omega) (by omega) hk hne hb2)
      · exact fnExactVersionOfw.law_small a0 rows0 c0 a1 zs1 c1 a2 zs2 c2 (pwh.placesTo (atw.hasB rows0 zs1 zs2) rows0.length) true w hr0 hr1 hr2 hs0 hs1 hs2 (by have := pwh.placesTo_length (atw.hasB rows0 zs1 zs2) rows0.length; omega) (Lib.hid fun _ _ _ _ _ _ _ h k l => vers.spec_yes _ _ _ _ _ _ _ _ _ _ h k l (by omega) (fun r hr => by have := grid.len_le_tot rows0 r hr; omega) (by omega) (by omega) hk hne hb2) (Lib.hid fun _ _ _ _ _ _ _ h k l => vers.impl_yes _ _ _ _ _ _ _ _ _ _ h k l (by omega) (fun r hr => by have := grid.len_le_tot rows0 r hr; omega) (by omega) (by omega) hk hne hb2)
    · exact fnExactVersionOfw.law_small a0 rows0 c0 a1 zs1 c1 a2 zs2 c2 [] false w hr0 hr1 hr2 hs0 hs1 hs2 (by simp) (Lib.hid fun _ _ _ _ _ _ _ h k l => vers.spec_no2 _ _ _ _ _ _ _ _ _ _ h k l (by omega) (fun r hr => by have := grid.len_le_tot rows0 r hr; omega) (by omega) (by omega) hk hne) (Lib.hid fun _ _ _ _ _ _ _ h k l => vers.impl_no2 _ _ _ _ _ _ _ _ _ _ h k l (by omega) (fun r hr => by have := grid.len_le_tot rows0 r hr; omega) (by omega) (by omega) hk hne)
  · exact fnExactVersionOfw.law_big a0 rows0 c0 a1 zs1 c1 a2 zs2 c2 w hr0 hr1 hr2 hl0 (fun s hs => (hm0 s hs).1) hl1 hl2 hs
end Go.Proofs.Ytncidajjeccbkaa.fnExactVersionOfl
