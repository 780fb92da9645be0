/- The law FnExactMajorityNet: its walk, from the walks of the model's and the program's function. -/
import Derived.Test.YtoephhhofkmgjaaFnExactMajorityNetW
import Derived.Test.YtoephhhofkmgjaaMajor
import Derived.Test.YtoephhhofkmgjaaGrid
namespace Go.Proofs.Ytoephhhofkmgjaa.fnExactMajorityNetl
open Go.RowKit own pp
set_option linter.unusedVariables false

theorem law (n0 : Int) (w : World) (hn0 : (Lit.int .i64 n0).wf = true) :
    Calls Try.prog 9 #[.int .i64 n0] w fun e w' => e = .returned (.bool true) ∧ Below w.heap.size w w' := by
  cases hk : (decide (1 ≤ n0) && decide (n0 ≤ 4))
  · exact fnExactMajorityNetw.law_small n0 [] 0 false w   (by simp [totL]) (Lib.hid fun w => major.spec_major_no n0 w hk) (Lib.hid fun w => major.impl_major_no n0 w hk)
  obtain ⟨m, rfl⟩ : ∃ m : Nat, n0 = (m : Int) := ⟨n0.toNat, by simp at hk; omega⟩
  have h14 : 1 ≤ m ∧ m ≤ 4 := by simp at hk; omega
  exact fnExactMajorityNetw.law_small (m : Int) [[(List.replicate m 1, (m : Int) / 2 + 1)]] m true w   (by simp [totL, planesfns.totJ, grid.tot]; omega) (Lib.hid fun w => major.spec_major_yes m w h14.1 h14.2) (Lib.hid fun w => major.impl_major_yes m w h14.1 h14.2)
end Go.Proofs.Ytoephhhofkmgjaa.fnExactMajorityNetl
