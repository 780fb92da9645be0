/- The walks of the model's and the program's WinnowBound. -/
import Derived.Test.YtocbklmkphgkeaaNums
import Derived.Test.YtocbklmkphgkeaaShelf
namespace Go.Proofs.Ytocbklmkphgkeaa.winbound
open Go.RowKit own pp nums
set_option linter.unusedVariables false
set_option linter.unusedSimpArgs false

/-- The numbers of a bound. -/
def wbB (n k : Int) : Bool := (decide (1 ≤ n) && decide (n ≤ 8)) && (decide (0 ≤ k) && decide (k ≤ n))
theorem wbB_iff (n k : Int) : wbB n k = true ↔ (1 ≤ n ∧ n ≤ 8) ∧ 0 ≤ k ∧ k ≤ n := by simp [wbB, and_assoc]
/-- How often 1 is doubled till it is at least n. -/
def lg (n : Int) : Int := if n ≤ 1 then 0 else if n ≤ 2 then 1 else if n ≤ 4 then 2 else 3
def wb (n k : Int) : Int := 1 + 2 * k * lg n
theorem ret_nb {a b : Int} (h : a = b) : Ending.returned (.tuple #[.int .i64 a, .bool true]) = .returned (.tuple #[.int .i64 b, .bool true]) := by rw [h]

theorem count_any (n : Int) (w : World) (ok : Bool) (h : Hid ((decide (1 ≤ n) && decide (n ≤ 8)) = ok)) :
    Calls Try.prog 146 #[.int .i64 n] w (Says ok w) := by
  by_cases h1 : 1 ≤ n
  · by_cases h2 : n ≤ 8
    · have e : ok = true := by rw [← h.out]; simp [h1, h2]
      clear h
      subst e
      go_enter Try.func146, Try.ntmps146
      go_wp2
      go_ret
      exact ⟨rfl, rfl⟩
    · have e : ok = false := by rw [← h.out]; simp [h2]
      clear h
      subst e
      go_enter Try.func146, Try.ntmps146
      go_wp2
      go_ret
      exact ⟨rfl, rfl⟩
  · have e : ok = false := by rw [← h.out]; simp [h1]
    clear h
    subst e
    go_enter Try.func146, Try.ntmps146
    go_wp2
    go_ret
    exact ⟨rfl, rfl⟩
end Go.Proofs.Ytocbklmkphgkeaa.winbound
