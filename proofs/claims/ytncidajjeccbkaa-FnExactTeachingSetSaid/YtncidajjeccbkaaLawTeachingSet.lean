/- The law FnExactTeachingSet: its walk, from the walks of the model's and the program's function. -/
import Derived.Test.YtncidajjeccbkaaFnExactTeachingSetW
import Derived.Test.YtncidajjeccbkaaTeachL
import Derived.Test.YtncidajjeccbkaaGrid
namespace Go.Proofs.Ytncidajjeccbkaa.fnExactTeachingSetl
open Go.RowKit own pp
set_option linter.unusedVariables false

theorem law (a0 : Option Addr) (rows0 : List (List Int)) (c0 : Nat) (n1 : Int) (w : World) (hr0 : grid.Reads w a0 rows0) (hm0 : ∀ r ∈ rows0, r.length ≤ maxLen ∧ ∀ z ∈ r, grid.Fits z) (hl0 : rows0.length ≤ maxLen) (hn1 : (Lit.int .i64 n1).wf = true) :
    Calls Try.prog 10 #[.slice a0 rows0.length c0, .int .i64 n1] w fun e w' => e = .returned (.bool true) ∧ Below w.heap.size w w' := by
  unfold maxLen at hl0 hm0
  by_cases hs : (rows0.length : Int) + (grid.tot rows0 : Int) ≤ 1048576
  · have hs0 := hs
    cases hk : cls.classB rows0
    · have hh : classt.hypoB rows0 n1 = false := by unfold classt.hypoB; rw [hk]; rfl
      exact fnExactTeachingSetw.law_small a0 rows0 c0 n1 [] false w hr0 hs0 (by simp) (Lib.hid fun _ _ _ h l => teachl.spec_no1 _ _ _ _ _ h l (by omega) (fun r hr => by have := grid.len_le_tot rows0 r hr; omega) hk) (Lib.hid fun _ _ _ h l => teachl.impl_no _ _ _ _ _ h l (by omega) (fun r hr => by have := grid.len_le_tot rows0 r hr; omega) hh)
    cases hi : (decide (0 ≤ n1) && decide (n1 ≤ (rows0.length : Int) - 1))
    · have hh : classt.hypoB rows0 n1 = false := by unfold classt.hypoB; rw [hk, hi]; rfl
      exact fnExactTeachingSetw.law_small a0 rows0 c0 n1 [] false w hr0 hs0 (by simp) (Lib.hid fun _ _ _ h l => teachl.spec_no2 _ _ _ _ _ h l (by omega) (fun r hr => by have := grid.len_le_tot rows0 r hr; omega) hk hi) (Lib.hid fun _ _ _ h l => teachl.impl_no _ _ _ _ _ h l (by omega) (fun r hr => by have := grid.len_le_tot rows0 r hr; omega) hh)
    have hi2 : 0 ≤ n1 ∧ n1 ≤ (rows0.length : Int) - 1 := by simpa using hi
    obtain ⟨k, hk9⟩ := Int.eq_ofNat_of_zero_le hi2.1
    have hC := cls.cls_of hk
    have h8 := hC.m8
    have hlen : (teachp.teachS rows0 (rows0.getD 0 []).length k).length ≤ 8 := by
      have h1 := teachp.idx_lt hC (i := k) (by omega)
      have h2 := (teachp.set_inside (pp.getD_mem (setsp.allS (rows0.getD 0 []).length) [] _ h1)).2
      exact Nat.le_trans h2 h8
    exact fnExactTeachingSetw.law_small a0 rows0 c0 n1 (teachp.teachS rows0 (rows0.getD 0 []).length k) true w hr0 hs0 (by omega) (Lib.hid fun _ _ _ h l => by rw [hk9]; exact teachl.spec_yes _ _ _ _ _ h l (by omega) (fun r hr => by have := grid.len_le_tot rows0 r hr; omega) hk (by omega)) (Lib.hid fun _ _ _ h l => by rw [hk9]; exact teachl.impl_yes _ _ _ _ _ h l (by omega) (fun r hr => by have := grid.len_le_tot rows0 r hr; omega) hk (by omega))
  · exact fnExactTeachingSetw.law_big a0 rows0 c0 n1 w hr0 hl0 (fun s hs => (hm0 s hs).1) hs
end Go.Proofs.Ytncidajjeccbkaa.fnExactTeachingSetl
