/- The walks of the model's greater and lesser one of two numbers. -/
import Derived.Test.YtoephhhofkmgjaaNums
namespace Go.Proofs.Ytoephhhofkmgjaa.most
open Go.RowKit own pp nums
set_option linter.unusedVariables false

theorem most_any (x y : Int) (w : World) :
    Calls Try.prog 114 #[.int .i64 x, .int .i64 y] w fun e w' => e = .returned (.int .i64 (max x y)) ∧ w' = w := by
  by_cases h : y < x
  · have e : max x y = x := by omega
    rw [e]
    have g : decide (y < x) = true := by simp [h]
    clear e
    go_enter Try.func114, Try.ntmps114
    go_wp2
    go_ret
    exact ⟨rfl, rfl⟩
  · have e : max x y = y := by omega
    rw [e]
    have g : decide (y < x) = false := by simp; omega
    clear e
    go_enter Try.func114, Try.ntmps114
    go_wp2
    go_ret
    exact ⟨rfl, rfl⟩
end Go.Proofs.Ytoephhhofkmgjaa.most
