/- The law FnExactParityNet: its walk, from the walks of the model's and the program's function. -/
import Derived.Test.YtoephhhofkmgjaaFnExactParityNetW
import Derived.Test.YtoephhhofkmgjaaParN
import Derived.Test.YtoephhhofkmgjaaGrid
namespace Go.Proofs.Ytoephhhofkmgjaa.fnExactParityNetl
open Go.RowKit own pp
set_option linter.unusedVariables false

theorem law (n0 : Int) (w : World) (hn0 : (Lit.int .i64 n0).wf = true) :
    Calls Try.prog 8 #[.int .i64 n0] w fun e w' => e = .returned (.bool true) ∧ Below w.heap.size w w' := by
  cases hk : (decide (1 ≤ n0) && decide (n0 ≤ 4))
  · exact fnExactParityNetw.law_small n0 [] 0 false w   (by simp [totL]) (Lib.hid fun w => parn.spec_par_no n0 w hk) (Lib.hid fun w => parn.impl_par_no n0 w hk)
  obtain ⟨m, rfl⟩ : ∃ m : Nat, n0 = (m : Int) := ⟨n0.toNat, by simp at hk; omega⟩
  have h14 : 1 ≤ m ∧ m ≤ 4 := by simp at hk; omega
  have hsz : ([parn.cnt m m, [(evenw.evenL true m, (1 : Int))]] : List (List (List Int × Int))).length + totL [parn.cnt m m, [(evenw.evenL true m, (1 : Int))]] ≤ 1048576 := by
    have h5 : m = 1 ∨ m = 2 ∨ m = 3 ∨ m = 4 := by omega
    rcases h5 with rfl | rfl | rfl | rfl <;> decide
  exact fnExactParityNetw.law_small (m : Int) [parn.cnt m m, [(evenw.evenL true m, (1 : Int))]] m true w   hsz (Lib.hid fun w => parn.spec_par_yes m w h14.1 h14.2) (Lib.hid fun w => parn.impl_par_yes m w h14.1 h14.2)
end Go.Proofs.Ytoephhhofkmgjaa.fnExactParityNetl
