/- The law FnExactTableSample: its walk, from the walks of the model's and the program's function. -/
import Derived.Test.YtlehlgnenaapaaaFnExactTableSampleW
import Derived.Test.YtlehlgnenaapaaaTableMain
import Derived.Test.YtlehlgnenaapaaaTableOk
import Derived.Test.YtlehlgnenaapaaaGrid
namespace Go.Proofs.Ytlehlgnenaapaaa.fnExactTableSamplel
open Go.RowKit own pp
set_option linter.unusedVariables false

theorem law (n0 : Int) (a1 : Option Addr) (zs1 : List Int) (c1 : Nat) (w : World) (hn0 : (Lit.int .i64 n0).wf = true) (hr1 : ints.Reads .i64 w a1 zs1) (hf1 : ∀ i, i < zs1.length → -9223372036854775808 ≤ zs1.getD i 0 ∧ zs1.getD i 0 ≤ 9223372036854775807) (hl1 : zs1.length ≤ maxLen) :
    Calls Try.prog 13 #[.int .i64 n0, .slice a1 zs1.length c1] w fun e w' => e = .returned (.bool true) ∧ Below w.heap.size w w' := by
  unfold maxLen at hl1 
  by_cases hs : zs1.length ≤ 1048576
  · have hs0 := hs
    by_cases hlo : n0 < 1
    · exact fnExactTableSamplew.law_small n0 a1 zs1 c1 [] [] false w hr1 hs0 (by simp [grid.tot]) (Lib.hid fun _ _ _ h => tablesample.spec_lo _ _ _ _ _ h hlo) (Lib.hid fun _ _ _ h => tablesample.impl_lo _ _ _ _ _ h hlo)
    by_cases hhi : 4 < n0
    · exact fnExactTableSamplew.law_small n0 a1 zs1 c1 [] [] false w hr1 hs0 (by simp [grid.tot]) (Lib.hid fun _ _ _ h => tablesample.spec_no _ _ _ _ _ h hlo (Lib.hid fun wa hr => tableok.spec_hi _ _ _ _ wa hr hhi)) (Lib.hid fun _ _ _ h => tablesample.impl_no _ _ _ _ _ h hlo (Lib.hid fun wa hr => tableok.impl_hi _ _ _ _ wa hr hhi))
    have h5 : n0 = 1 ∨ n0 = 2 ∨ n0 = 3 ∨ n0 = 4 := by omega
    clear hlo hhi hn0
    rcases h5 with rfl | rfl | rfl | rfl
    · by_cases hl : zs1.length = 2
      · cases hx : range.numsR 0 1 zs1
        · exact fnExactTableSamplew.law_small 1 a1 zs1 c1 [] [] false w hr1 hs0 (by simp [grid.tot]) (Lib.hid fun _ _ _ h => tablesample.spec_no _ _ _ _ _ h (by omega) (Lib.hid fun wa hr => tableok.spec_tab_1 _ _ _ wa hr hl false (Lib.hid hx))) (Lib.hid fun _ _ _ h => tablesample.impl_no _ _ _ _ _ h (by omega) (Lib.hid fun wa hr => tableok.impl_tab_1 _ _ _ wa hr hl false (Lib.hid hx)))
        · exact fnExactTableSamplew.law_small 1 a1 zs1 c1 (told.toldR 1 zs1.length) (told.toldL zs1 zs1.length) true w hr1 hs0 (tableok.size_ok (by omega) (by omega)) (Lib.hid fun _ _ _ h => tablesample.spec_yes 1 _ _ _ _ h (by omega) (by omega) (by omega) hx (Lib.hid fun wa hr => tableok.spec_tab_1 _ _ _ wa hr hl true (Lib.hid hx))) (Lib.hid fun _ _ _ h => tablesample.impl_yes 1 _ _ _ _ h (by omega) (by omega) (by omega) hx (Lib.hid fun wa hr => tableok.impl_tab_1 _ _ _ wa hr hl true (Lib.hid hx)))
      · exact fnExactTableSamplew.law_small 1 a1 zs1 c1 [] [] false w hr1 hs0 (by simp [grid.tot]) (Lib.hid fun _ _ _ h => tablesample.spec_no _ _ _ _ _ h (by omega) (Lib.hid fun wa hr => tableok.spec_len_1 _ _ _ wa hr hl)) (Lib.hid fun _ _ _ h => tablesample.impl_no _ _ _ _ _ h (by omega) (Lib.hid fun wa hr => tableok.impl_len_1 _ _ _ wa hr hl))
    · by_cases hl : zs1.length = 4
      · cases hx : range.numsR 0 1 zs1
        · exact fnExactTableSamplew.law_small 2 a1 zs1 c1 [] [] false w hr1 hs0 (by simp [grid.tot]) (Lib.hid fun _ _ _ h => tablesample.spec_no _ _ _ _ _ h (by omega) (Lib.hid fun wa hr => tableok.spec_tab_2 _ _ _ wa hr hl false (Lib.hid hx))) (Lib.hid fun _ _ _ h => tablesample.impl_no _ _ _ _ _ h (by omega) (Lib.hid fun wa hr => tableok.impl_tab_2 _ _ _ wa hr hl false (Lib.hid hx)))
        · exact fnExactTableSamplew.law_small 2 a1 zs1 c1 (told.toldR 2 zs1.length) (told.toldL zs1 zs1.length) true w hr1 hs0 (tableok.size_ok (by omega) (by omega)) (Lib.hid fun _ _ _ h => tablesample.spec_yes 2 _ _ _ _ h (by omega) (by omega) (by omega) hx (Lib.hid fun wa hr => tableok.spec_tab_2 _ _ _ wa hr hl true (Lib.hid hx))) (Lib.hid fun _ _ _ h => tablesample.impl_yes 2 _ _ _ _ h (by omega) (by omega) (by omega) hx (Lib.hid fun wa hr => tableok.impl_tab_2 _ _ _ wa hr hl true (Lib.hid hx)))
      · exact fnExactTableSamplew.law_small 2 a1 zs1 c1 [] [] false w hr1 hs0 (by simp [grid.tot]) (Lib.hid fun _ _ _ h => tablesample.spec_no _ _ _ _ _ h (by omega) (Lib.hid fun wa hr => tableok.spec_len_2 _ _ _ wa hr hl)) (Lib.hid fun _ _ _ h => tablesample.impl_no _ _ _ _ _ h (by omega) (Lib.hid fun wa hr => tableok.impl_len_2 _ _ _ wa hr hl))
    · by_cases hl : zs1.length = 8
      · cases hx : range.numsR 0 1 zs1
        · exact fnExactTableSamplew.law_small 3 a1 zs1 c1 [] [] false w hr1 hs0 (by simp [grid.tot]) (Lib.hid fun _ _ _ h => tablesample.spec_no _ _ _ _ _ h (by omega) (Lib.hid fun wa hr => tableok.spec_tab_3 _ _ _ wa hr hl false (Lib.hid hx))) (Lib.hid fun _ _ _ h => tablesample.impl_no _ _ _ _ _ h (by omega) (Lib.hid fun wa hr => tableok.impl_tab_3 _ _ _ wa hr hl false (Lib.hid hx)))
        · exact fnExactTableSamplew.law_small 3 a1 zs1 c1 (told.toldR 3 zs1.length) (told.toldL zs1 zs1.length) true w hr1 hs0 (tableok.size_ok (by omega) (by omega)) (Lib.hid fun _ _ _ h => tablesample.spec_yes 3 _ _ _ _ h (by omega) (by omega) (by omega) hx (Lib.hid fun wa hr => tableok.spec_tab_3 _ _ _ wa hr hl true (Lib.hid hx))) (Lib.hid fun _ _ _ h => tablesample.impl_yes 3 _ _ _ _ h (by omega) (by omega) (by omega) hx (Lib.hid fun wa hr => tableok.impl_tab_3 _ _ _ wa hr hl true (Lib.hid hx)))
      · exact fnExactTableSamplew.law_small 3 a1 zs1 c1 [] [] false w hr1 hs0 (by simp [grid.tot]) (Lib.hid fun _ _ _ h => tablesample.spec_no _ _ _ _ _ h (by omega) (Lib.hid fun wa hr => tableok.spec_len_3 _ _ _ wa hr hl)) (Lib.hid fun _ _ _ h => tablesample.impl_no _ _ _ _ _ h (by omega) (Lib.hid fun wa hr => tableok.impl_len_3 _ _ _ wa hr hl))
    · by_cases hl : zs1.length = 16
      · cases hx : range.numsR 0 1 zs1
        · exact fnExactTableSamplew.law_small 4 a1 zs1 c1 [] [] false w hr1 hs0 (by simp [grid.tot]) (Lib.hid fun _ _ _ h => tablesample.spec_no _ _ _ _ _ h (by omega) (Lib.hid fun wa hr => tableok.spec_tab_4 _ _ _ wa hr hl false (Lib.hid hx))) (Lib.hid fun _ _ _ h => tablesample.impl_no _ _ _ _ _ h (by omega) (Lib.hid fun wa hr => tableok.impl_tab_4 _ _ _ wa hr hl false (Lib.hid hx)))
        · exact fnExactTableSamplew.law_small 4 a1 zs1 c1 (told.toldR 4 zs1.length) (told.toldL zs1 zs1.length) true w hr1 hs0 (tableok.size_ok (by omega) (by omega)) (Lib.hid fun _ _ _ h => tablesample.spec_yes 4 _ _ _ _ h (by omega) (by omega) (by omega) hx (Lib.hid fun wa hr => tableok.spec_tab_4 _ _ _ wa hr hl true (Lib.hid hx))) (Lib.hid fun _ _ _ h => tablesample.impl_yes 4 _ _ _ _ h (by omega) (by omega) (by omega) hx (Lib.hid fun wa hr => tableok.impl_tab_4 _ _ _ wa hr hl true (Lib.hid hx)))
      · exact fnExactTableSamplew.law_small 4 a1 zs1 c1 [] [] false w hr1 hs0 (by simp [grid.tot]) (Lib.hid fun _ _ _ h => tablesample.spec_no _ _ _ _ _ h (by omega) (Lib.hid fun wa hr => tableok.spec_len_4 _ _ _ wa hr hl)) (Lib.hid fun _ _ _ h => tablesample.impl_no _ _ _ _ _ h (by omega) (Lib.hid fun wa hr => tableok.impl_len_4 _ _ _ wa hr hl))
  · exact fnExactTableSamplew.law_big n0 a1 zs1 c1 w hr1 hl1 hs
end Go.Proofs.Ytlehlgnenaapaaa.fnExactTableSamplel
