/- The walks of the model's and the program's tests of numbers and points. -/
import Derived.Test.YtncidajjeccbkaaRows
import Derived.Test.YtncidajjeccbkaaOwnG
import Derived.Test.YtncidajjeccbkaaPlainPlane
import Derived.WalkSpells
import Derived.WalkLawsBesides
import Derived.Outline
import Derived.ProofKit
namespace Go.Proofs.Ytncidajjeccbkaa.nums
open Go.RowKit own pp
set_option linter.unusedVariables false

/-- It returns a truth value, and the world is as it was. -/
def Says (ok : Bool) (w : World) (e : Ending) (w' : World) : Prop := e = .returned (.bool ok) ∧ w = w'
theorem says_ret {ok : Bool} {w : World} (e : Ending) (w' : World) (h : Says ok w e w') : RetB ok w e w' := by
  obtain ⟨h1, rfl⟩ := h
  exact ⟨h1, Below.refl _ _⟩

theorem in_any (x a b : Int) (w : World) (ok : Bool) (h : Hid ((decide (a ≤ x) && decide (x ≤ b)) = ok)) :
    Calls Try.prog 52 #[.int .i64 x, .int .i64 a, .int .i64 b] w (Says ok w) := by
  by_cases h1 : a ≤ x
  · by_cases h2 : x ≤ b
    · have e : ok = true := by rw [← h.out]; simp [h1, h2]
      clear h
      subst e
      go_enter Try.func52, Try.ntmps52
      go_wp2
      go_ret
      exact ⟨rfl, rfl⟩
    · have e : ok = false := by rw [← h.out]; simp [h2]
      clear h
      subst e
      go_enter Try.func52, Try.ntmps52
      go_wp2
      go_ret
      exact ⟨rfl, rfl⟩
  · have e : ok = false := by rw [← h.out]; simp [h1]
    clear h
    subst e
    go_enter Try.func52, Try.ntmps52
    go_wp2
    go_ret
    exact ⟨rfl, rfl⟩



end Go.Proofs.Ytncidajjeccbkaa.nums
