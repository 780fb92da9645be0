/- The walks of the model's greater and lesser one of two numbers. -/
import Derived.Test.YtplhcboecjegjaaNums
namespace Go.Proofs.Ytplhcboecjegjaa.most
open Go.RowKit own pp nums
set_option linter.unusedVariables false

theorem most_any (x y : Int) (w : World) :
    Calls Try.prog 81 #[.int .i64 x, .int .i64 y] w fun e w' => e = .returned (.int .i64 (max x y)) ∧ w' = w := by
  by_cases h : y < x
  · have e : max x y = x := by omega
    rw [e]
    have g : decide (y < x) = true := by simp [h]
    clear e
    go_enter Try.func81, Try.ntmps81
    go_wp2
    go_ret
    exact ⟨rfl, rfl⟩
  · have e : max x y = y := by omega
    rw [e]
    have g : decide (y < x) = false := by simp; omega
    clear e
    go_enter Try.func81, Try.ntmps81
    go_wp2
    go_ret
    exact ⟨rfl, rfl⟩
theorem least_any (x y : Int) (w : World) :
    Calls Try.prog 171 #[.int .i64 x, .int .i64 y] w fun e w' => e = .returned (.int .i64 (min x y)) ∧ w' = w := by
  by_cases h : x < y
  · have e : min x y = x := by omega
    rw [e]
    have g : decide (x < y) = true := by simp [h]
    clear e
    go_enter Try.func171, Try.ntmps171
    go_wp2
    go_ret
    exact ⟨rfl, rfl⟩
  · have e : min x y = y := by omega
    rw [e]
    have g : decide (x < y) = false := by simp; omega
    clear e
    go_enter Try.func171, Try.ntmps171
    go_wp2
    go_ret
    exact ⟨rfl, rfl⟩
end Go.Proofs.Ytplhcboecjegjaa.most
