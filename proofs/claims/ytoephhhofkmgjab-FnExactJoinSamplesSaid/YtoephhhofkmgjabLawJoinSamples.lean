/- The law FnExactJoinSamples: its walk, from the walks of the model's and the program's function. -/
import Derived.Test.YtoephhhofkmgjabFnExactJoinSamplesW
import Derived.Test.YtoephhhofkmgjabJoinSI
import Derived.Test.YtoephhhofkmgjabJoinSN
import Derived.Test.YtoephhhofkmgjabJoinSS
import Derived.Test.YtoephhhofkmgjabJoinSY
import Derived.Test.YtoephhhofkmgjabGrid
namespace Go.Proofs.Ytoephhhofkmgjab.fnExactJoinSamplesl
open Go.RowKit own pp
set_option linter.unusedVariables false

theorem law (a0 : Option Addr) (rows0 : List (List Int)) (c0 : Nat) (e0 : Option Addr) (zs0 : List Int) (d0 : Nat) (a1 : Option Addr) (rows1 : List (List Int)) (c1 : Nat) (e1 : Option Addr) (zs1 : List Int) (d1 : Nat) (w : World) (hr0 : grid.Reads w a0 rows0) (hm0 : ∀ r ∈ rows0, r.length ≤ maxLen ∧ ∀ z ∈ r, grid.Fits z) (hl0 : rows0.length ≤ maxLen) (hq0 : ints.Reads .i64 w e0 zs0) (hf0 : ∀ z ∈ zs0, grid.Fits z) (hk0 : zs0.length ≤ maxLen) (hr1 : grid.Reads w a1 rows1) (hm1 : ∀ r ∈ rows1, r.length ≤ maxLen ∧ ∀ z ∈ r, grid.Fits z) (hl1 : rows1.length ≤ maxLen) (hq1 : ints.Reads .i64 w e1 zs1) (hf1 : ∀ z ∈ zs1, grid.Fits z) (hk1 : zs1.length ≤ maxLen) :
    Calls Try.prog 7 #[.agg #[.slice a0 rows0.length c0, .slice e0 zs0.length d0], .agg #[.slice a1 rows1.length c1, .slice e1 zs1.length d1]] w fun e w' => e = .returned (.bool true) ∧ Below w.heap.size w w' := by
  unfold maxLen at hl0 hl1 hk0 hk1 hm0 hm1
  by_cases hs : (rows0.length : Int) + (grid.tot rows0 : Int) + (zs0.length : Int) + (rows1.length : Int) + (grid.tot rows1 : Int) + (zs1.length : Int) ≤ 1048576
  · have hs0 := hs
    cases h1 : sampleB rows0 zs0
    · exact fnExactJoinSamplesw.law_small a0 rows0 c0 e0 zs0 d0 a1 rows1 c1 e1 zs1 d1 [] [] false w hr0 hq0 hr1 hq1 hs0 (by simp [grid.tot]) (Lib.hid fun _ _ _ _ _ _ _ _ w hr hq hr1 hq1 => joinsn.spec_no1 _ rows0 _ _ zs0 _ _ rows1 _ _ zs1 _ w hr hq hr1 hq1 (by omega) (by omega) (fun r hr => by have := grid.len_le_tot rows0 r hr; omega) (by omega) (by omega) (fun r hr => by have := grid.len_le_tot rows1 r hr; omega) (Lib.hid h1)) (Lib.hid fun _ _ _ _ _ _ _ _ w hr hq hr1 hq1 => joinsn.impl_no1 _ rows0 _ _ zs0 _ _ rows1 _ _ zs1 _ w hr hq hr1 hq1 (by omega) (by omega) (fun r hr => by have := grid.len_le_tot rows0 r hr; omega) (by omega) (by omega) (fun r hr => by have := grid.len_le_tot rows1 r hr; omega) (Lib.hid h1))
    cases h2 : sampleB rows1 zs1
    · exact fnExactJoinSamplesw.law_small a0 rows0 c0 e0 zs0 d0 a1 rows1 c1 e1 zs1 d1 [] [] false w hr0 hq0 hr1 hq1 hs0 (by simp [grid.tot]) (Lib.hid fun _ _ _ _ _ _ _ _ w hr hq hr1 hq1 => joinsn.spec_no2 _ rows0 _ _ zs0 _ _ rows1 _ _ zs1 _ w hr hq hr1 hq1 (by omega) (by omega) (fun r hr => by have := grid.len_le_tot rows0 r hr; omega) (by omega) (by omega) (fun r hr => by have := grid.len_le_tot rows1 r hr; omega) (Lib.hid h1) (Lib.hid h2)) (Lib.hid fun _ _ _ _ _ _ _ _ w hr hq hr1 hq1 => joinsn.impl_no2 _ rows0 _ _ zs0 _ _ rows1 _ _ zs1 _ w hr hq hr1 hq1 (by omega) (by omega) (fun r hr => by have := grid.len_le_tot rows0 r hr; omega) (by omega) (by omega) (fun r hr => by have := grid.len_le_tot rows1 r hr; omega) (Lib.hid h1) (Lib.hid h2))
    cases h3 : sampleB (rows0 ++ rows1) (zs0 ++ zs1)
    · exact fnExactJoinSamplesw.law_small a0 rows0 c0 e0 zs0 d0 a1 rows1 c1 e1 zs1 d1 [] [] false w hr0 hq0 hr1 hq1 hs0 (by simp [grid.tot]) (Lib.hid fun _ _ _ _ _ _ _ _ w hr hq hr1 hq1 => joinss.spec_out _ rows0 _ _ zs0 _ _ rows1 _ _ zs1 _ w hr hq hr1 hq1 (by omega) (by omega) (fun r hr => by have := grid.len_le_tot rows0 r hr; omega) (by omega) (by omega) (fun r hr => by have := grid.len_le_tot rows1 r hr; omega) (Lib.hid h1) (Lib.hid h2) (Lib.hid h3)) (Lib.hid fun _ _ _ _ _ _ _ _ w hr hq hr1 hq1 => joinsi.impl_out _ rows0 _ _ zs0 _ _ rows1 _ _ zs1 _ w hr hq hr1 hq1 (by omega) (by omega) (fun r hr => by have := grid.len_le_tot rows0 r hr; omega) (by omega) (by omega) (fun r hr => by have := grid.len_le_tot rows1 r hr; omega) (Lib.hid h1) (Lib.hid h2) (Lib.hid h3))
    have hsz : (rows0 ++ rows1).length + grid.tot (rows0 ++ rows1) + (zs0 ++ zs1).length ≤ 1048576 := by
      have ht : grid.tot (rows0 ++ rows1) = grid.tot rows0 + grid.tot rows1 := by simp [grid.tot]
      rw [ht, List.length_append, List.length_append]; omega
    exact fnExactJoinSamplesw.law_small a0 rows0 c0 e0 zs0 d0 a1 rows1 c1 e1 zs1 d1 (rows0 ++ rows1) (zs0 ++ zs1) true w hr0 hq0 hr1 hq1 hs0 hsz (Lib.hid fun _ _ _ _ _ _ _ _ w hr hq hr1 hq1 => joinss.spec_yes _ rows0 _ _ zs0 _ _ rows1 _ _ zs1 _ w hr hq hr1 hq1 (by omega) (by omega) (fun r hr => by have := grid.len_le_tot rows0 r hr; omega) (by omega) (by omega) (fun r hr => by have := grid.len_le_tot rows1 r hr; omega) (Lib.hid h1) (Lib.hid h2) (Lib.hid h3)) (Lib.hid fun _ _ _ _ _ _ _ _ w hr hq hr1 hq1 => joinsy.impl_yes _ rows0 _ _ zs0 _ _ rows1 _ _ zs1 _ w hr hq hr1 hq1 (by omega) (by omega) (fun r hr => by have := grid.len_le_tot rows0 r hr; omega) (by omega) (by omega) (fun r hr => by have := grid.len_le_tot rows1 r hr; omega) (Lib.hid h1) (Lib.hid h2) (Lib.hid h3))
  · exact fnExactJoinSamplesw.law_big a0 rows0 c0 e0 zs0 d0 a1 rows1 c1 e1 zs1 d1 w hr0 hq0 hr1 hq1 hl0 (fun s hs => (hm0 s hs).1) hk0 hl1 (fun s hs => (hm1 s hs).1) hk1 hs
end Go.Proofs.Ytoephhhofkmgjab.fnExactJoinSamplesl
