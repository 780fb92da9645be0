/- The law FnExactHalvingPlay: its walk, from the walks of the model's and the program's function. -/
import Derived.Test.YtncidajjeccbkaaFnExactHalvingPlayW
import Derived.Test.YtncidajjeccbkaaHalvS
import Derived.Test.YtncidajjeccbkaaHalvI
import Derived.Test.YtncidajjeccbkaaGrid
namespace Go.Proofs.Ytncidajjeccbkaa.fnExactHalvingPlayl
open Go.RowKit own pp
set_option linter.unusedVariables false

theorem law (a0 : Option Addr) (rows0 : List (List Int)) (c0 : Nat) (n1 : Int) (a2 : Option Addr) (zs2 : List Int) (c2 : Nat) (w : World) (hr0 : grid.Reads w a0 rows0) (hm0 : ∀ r ∈ rows0, r.length ≤ maxLen ∧ ∀ z ∈ r, grid.Fits z) (hl0 : rows0.length ≤ maxLen) (hn1 : (Lit.int .i64 n1).wf = true) (hr2 : ints.Reads .i64 w a2 zs2) (hf2 : ∀ i, i < zs2.length → -9223372036854775808 ≤ zs2.getD i 0 ∧ zs2.getD i 0 ≤ 9223372036854775807) (hl2 : zs2.length ≤ maxLen) :
    Calls Try.prog 13 #[.slice a0 rows0.length c0, .int .i64 n1, .slice a2 zs2.length c2] w fun e w' => e = .returned (.bool true) ∧ Below w.heap.size w w' := by
  unfold maxLen at hl0 hl2 hm0
  by_cases hs : zs2.length ≤ 1048576 ∧ (rows0.length : Int) + (grid.tot rows0 : Int) ≤ 1048576
  · obtain ⟨hs0, hs1⟩ := hs
    cases hk : cls.classB rows0
    · have hh : classt.hypoB rows0 n1 = false := by unfold classt.hypoB; rw [hk]; rfl
      exact fnExactHalvingPlayw.law_small a0 rows0 c0 n1 a2 zs2 c2 [] false w hr0 hr2 hs0 hs1 (by simp) (Lib.hid fun _ _ _ _ _ h l k q => halvs.spec_no1 _ _ _ _ _ _ _ _ h k q (by omega) (fun r hr => by have := grid.len_le_tot rows0 r hr; omega) (by omega) hk) (Lib.hid fun _ _ _ _ _ h l k q => halvi.impl_no1 _ _ _ _ _ _ _ _ h k (by omega) (fun r hr => by have := grid.len_le_tot rows0 r hr; omega) (by omega) hh)
    cases hi : (decide (0 ≤ n1) && decide (n1 ≤ (rows0.length : Int) - 1))
    · have hh : classt.hypoB rows0 n1 = false := by unfold classt.hypoB; rw [hk, hi]; rfl
      exact fnExactHalvingPlayw.law_small a0 rows0 c0 n1 a2 zs2 c2 [] false w hr0 hr2 hs0 hs1 (by simp) (Lib.hid fun _ _ _ _ _ h l k q => halvs.spec_no2 _ _ _ _ _ _ _ _ h k q (by omega) (fun r hr => by have := grid.len_le_tot rows0 r hr; omega) (by omega) hk hi) (Lib.hid fun _ _ _ _ _ h l k q => halvi.impl_no1 _ _ _ _ _ _ _ _ h k (by omega) (fun r hr => by have := grid.len_le_tot rows0 r hr; omega) (by omega) hh)
    cases hd : diffw.diffB (rows0.getD 0 []).length zs2
    · have hh : classt.hypoB rows0 n1 = true := by unfold classt.hypoB; rw [hk, hi]; rfl
      exact fnExactHalvingPlayw.law_small a0 rows0 c0 n1 a2 zs2 c2 [] false w hr0 hr2 hs0 hs1 (by simp) (Lib.hid fun _ _ _ _ _ h l k q => halvs.spec_no3 _ _ _ _ _ _ _ _ h k q (by omega) (fun r hr => by have := grid.len_le_tot rows0 r hr; omega) (by omega) hk hi hd) (Lib.hid fun _ _ _ _ _ h l k q => halvi.impl_no2 _ _ _ _ _ _ _ _ h k (by omega) (fun r hr => by have := grid.len_le_tot rows0 r hr; omega) (by omega) hh hd)
    have hi2 : 0 ≤ n1 ∧ n1 ≤ (rows0.length : Int) - 1 := by simpa using hi
    obtain ⟨k, hk9⟩ := Int.eq_ofNat_of_zero_le hi2.1
    have hlen := halvp.play_length rows0 k zs2 zs2.length
    exact fnExactHalvingPlayw.law_small a0 rows0 c0 n1 a2 zs2 c2 (halvp.playTo rows0 k zs2 zs2.length) true w hr0 hr2 hs0 hs1 (by omega) (Lib.hid fun _ _ _ _ _ h l k q => by rw [hk9]; exact halvs.spec_yes _ _ _ _ _ _ _ _ h k q (by omega) (fun r hr => by have := grid.len_le_tot rows0 r hr; omega) (by omega) hk (by omega) hd) (Lib.hid fun _ _ _ _ _ h l k q => by rw [hk9]; exact halvi.impl_yes _ _ _ _ _ _ _ _ h k (by omega) (fun r hr => by have := grid.len_le_tot rows0 r hr; omega) (by omega) hk (by omega) hd)
  · exact fnExactHalvingPlayw.law_big a0 rows0 c0 n1 a2 zs2 c2 w hr0 hr2 hl0 (fun s hs => (hm0 s hs).1) hl2 hs
end Go.Proofs.Ytncidajjeccbkaa.fnExactHalvingPlayl
