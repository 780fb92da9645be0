/- The walks of the model's and the program's test of a sample. -/
import Derived.Test.YtcklehfcpengoaaPlanes
import Derived.Test.YtcklehfcpengoaaGrid
namespace Go.Proofs.Ytcklehfcpengoaa.samplesv
open Go.RowKit own pp nums
set_option linter.unusedVariables false

theorem says_quiet {P : Program} {f : FuncId} {args : Array Value} {w : World} {n : Nat} {ok : Bool} (h : Calls P f args (w.drewN n) (Says ok (w.drewN n))) :
    Calls P f args (w.drewN n) fun e w'' => e = .returned (.bool ok) ∧ ∃ m, w'' = w.drewN m :=
  h.mono fun _ _ ⟨he, hw⟩ => ⟨he, n, hw.symm⟩

theorem impl_label (x : Int) (w : World) (ok : Bool) (h : Hid (labelB x = ok)) :
    Calls Try.prog 121 #[.int .i64 x] w (Says ok w) := by
  by_cases h1 : x = 1
  · have e : ok = true := by rw [← h.out]; simp [labelB, h1]
    clear h
    subst h1 e
    go_enter Try.func121, Try.ntmps121
    go_wp2_with fail
    go_ret
    exact ⟨rfl, rfl⟩
  · by_cases h2 : x = -1
    · have e : ok = true := by rw [← h.out]; simp [labelB, h2]
      clear h h1
      subst h2 e
      go_enter Try.func121, Try.ntmps121
      go_wp2_with fail
      go_ret
      exact ⟨rfl, rfl⟩
    · have e : ok = false := by rw [← h.out]; simp [labelB, h1, h2]
      have f1 : (x == 1) = false := by simp; omega
      have f2 : (x == -1) = false := by simp; omega
      clear h h1 h2
      subst e
      go_enter Try.func121, Try.ntmps121
      go_wp2_with fail
      go_ret
      exact ⟨rfl, rfl⟩

/-- A row is a point as long as the first one. -/
def rowB (rows : List (List Int)) (r : List Int) : Bool := pointB r && decide (r.length = (rows.getD 0 []).length)
theorem rowsB_eq (rows : List (List Int)) : rowsB rows = rows.all (rowB rows) := rfl

end Go.Proofs.Ytcklehfcpengoaa.samplesv
