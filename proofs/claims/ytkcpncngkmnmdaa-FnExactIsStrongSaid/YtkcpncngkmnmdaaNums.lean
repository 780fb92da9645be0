/- The walks of the model's and the program's tests of numbers and points. -/
import Derived.Test.YtkcpncngkmnmdaaRows
import Derived.Test.YtkcpncngkmnmdaaOwnG
import Derived.Test.YtkcpncngkmnmdaaPlainPlane
import Derived.WalkSpells
import Derived.WalkLawsBesides
import Derived.Outline
import Derived.ProofKit
namespace Go.Proofs.Ytkcpncngkmnmdaa.nums
open Go.RowKit own pp
set_option linter.unusedVariables false

/-- It returns a truth value, and the world is as it was. -/
def Says (ok : Bool) (w : World) (e : Ending) (w' : World) : Prop := e = .returned (.bool ok) ∧ w = w'
theorem says_ret {ok : Bool} {w : World} (e : Ending) (w' : World) (h : Says ok w e w') : RetB ok w e w' := by
  obtain ⟨h1, rfl⟩ := h
  exact ⟨h1, Below.refl _ _⟩

theorem in_any (x a b : Int) (w : World) (ok : Bool) (h : Hid ((decide (a ≤ x) && decide (x ≤ b)) = ok)) :
    Calls Try.prog 81 #[.int .i64 x, .int .i64 a, .int .i64 b] w (Says ok w) := by
  by_cases h1 : a ≤ x
  · by_cases h2 : x ≤ b
    · have e : ok = true := by rw [← h.out]; simp [h1, h2]
      clear h
      subst e
      go_enter Try.func81, Try.ntmps81
      go_wp2
      go_ret
      exact ⟨rfl, rfl⟩
    · have e : ok = false := by rw [← h.out]; simp [h2]
      clear h
      subst e
      go_enter Try.func81, Try.ntmps81
      go_wp2
      go_ret
      exact ⟨rfl, rfl⟩
  · have e : ok = false := by rw [← h.out]; simp [h1]
    clear h
    subst e
    go_enter Try.func81, Try.ntmps81
    go_wp2
    go_ret
    exact ⟨rfl, rfl⟩



end Go.Proofs.Ytkcpncngkmnmdaa.nums
