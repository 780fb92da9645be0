/- The law FnExactIntervalClass: its walk, from the walks of the model's and the program's function. -/
import Derived.Test.YtncidajjeccbkaaFnExactIntervalClassW
import Derived.Test.YtncidajjeccbkaaIntv
import Derived.Test.YtncidajjeccbkaaGrid
namespace Go.Proofs.Ytncidajjeccbkaa.fnExactIntervalClassl
open Go.RowKit own pp
set_option linter.unusedVariables false

theorem law (n0 : Int) (w : World) (hn0 : (Lit.int .i64 n0).wf = true) :
    Calls Try.prog 4 #[.int .i64 n0] w fun e w' => e = .returned (.bool true) ∧ Below w.heap.size w w' := by
  cases hk : (decide (0 ≤ n0) && decide (n0 ≤ 8))
  · exact fnExactIntervalClassw.law_small n0 [] false w   (by simp [grid.tot]) (Lib.hid fun w => intv.spec_no _ w hk) (Lib.hid fun w => intv.impl_no _ w hk)
  have h2 : 0 ≤ n0 ∧ n0 ≤ 8 := by simpa using hk
  obtain ⟨m, hm⟩ := Int.eq_ofNat_of_zero_le h2.1
  have hlen := intv.iv_size (m := m) (by omega)
  exact fnExactIntervalClassw.law_small n0 (intv.ivL m) true w   (by omega) (Lib.hid fun w => by rw [hm]; exact intv.spec_yes m w (by omega)) (Lib.hid fun w => by rw [hm]; exact intv.impl_yes m w (by omega))
end Go.Proofs.Ytncidajjeccbkaa.fnExactIntervalClassl
