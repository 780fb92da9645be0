/- The plane of two points: plain lemmas. -/
import Derived.Test.YtkbcofgigfnfaaaSquares
import Derived.Test.YtkbcofgigfnfaaaDots
import Derived.Test.YtkbcofgigfnfaaaMk
import Derived.Test.YtkbcofgigfnfaaaKern
namespace Go.Proofs.Ytkbcofgigfnfaaa.pairp
open Go.RowKit own pp nums squares dots mk kern
set_option linter.unusedVariables false
set_option linter.unusedSimpArgs false

def ppW (xs ys : List Int) : List Int := mk.mk (fun i => 2 * (xs.getD i 0 - ys.getD i 0)) xs.length
def ppD (xs ys : List Int) : Int := dot xs xs - dot ys ys
theorem ppW_length (xs ys : List Int) : (ppW xs ys).length = xs.length := mk_length _ _
theorem sq_nonneg (xs ys : List Int) (k : Nat) : 0 ≤ sqTo xs ys k := by
  induction k with
  | zero => simp [sqTo_zero]
  | succ k ih =>
    rw [sqTo_succ]
    have : 0 ≤ (xs.getD k 0 - ys.getD k 0) * (xs.getD k 0 - ys.getD k 0) := by
      rcases Int.le_total 0 (xs.getD k 0 - ys.getD k 0) with h | h
      · exact Int.mul_nonneg h h
      · exact Int.mul_nonneg_of_nonpos_of_nonpos h h
    omega
theorem sq_zero_at {xs ys : List Int} (k : Nat) (h : sqTo xs ys k = 0) (j : Nat) (hj : j < k) : xs.getD j 0 = ys.getD j 0 := by
  induction k with
  | zero => omega
  | succ k ih =>
    rw [sqTo_succ] at h
    have h1 := sq_nonneg xs ys k
    have h2 : 0 ≤ (xs.getD k 0 - ys.getD k 0) * (xs.getD k 0 - ys.getD k 0) := by
      rcases Int.le_total 0 (xs.getD k 0 - ys.getD k 0) with h | h
      · exact Int.mul_nonneg h h
      · exact Int.mul_nonneg_of_nonpos_of_nonpos h h
    by_cases e : j = k
    · subst e
      have h3 : (xs.getD j 0 - ys.getD j 0) * (xs.getD j 0 - ys.getD j 0) = 0 := by omega
      rcases Int.mul_eq_zero.1 h3 with h4 | h4 <;> omega
    · exact ih (by omega) (by omega)
theorem sq_self (xs : List Int) (k : Nat) : sqTo xs xs k = 0 := by
  induction k with
  | zero => rfl
  | succ k ih => rw [sqTo_succ, ih]; simp
theorem sq_zero {xs ys : List Int} (hl : xs.length = ys.length) : sq xs ys = 0 ↔ xs = ys := by
  constructor
  · intro h
    apply List.ext_getElem hl
    intro i h1 h2
    have h3 := sq_zero_at xs.length h i h1
    rw [List.getD_eq_getElem?_getD, List.getD_eq_getElem?_getD, List.getElem?_eq_getElem h1, List.getElem?_eq_getElem h2] at h3
    exact h3
  · rintro rfl
    exact sq_self _ _
theorem pp_bd {xs ys : List Int} (h : pairB xs ys = true) : -648 ≤ ppD xs ys ∧ ppD xs ys ≤ 648 := by
  obtain ⟨hx, hy, _⟩ := (pairB_iff _ _).1 h
  have h1 := dot_bd hx hx rfl
  have h2 := dot_bd hy hy rfl
  unfold ppD
  omega
theorem pp_at {xs ys : List Int} (h : pairB xs ys = true) (k : Nat) (hk : k < xs.length) : (-9 ≤ xs.getD k 0 ∧ xs.getD k 0 ≤ 9) ∧ -9 ≤ ys.getD k 0 ∧ ys.getD k 0 ≤ 9 := by
  obtain ⟨hx, hy, hl⟩ := (pairB_iff _ _).1 h
  exact ⟨numsB_at ((pointB_iff _).1 hx).2.2 k hk, numsB_at ((pointB_iff _).1 hy).2.2 k (by omega)⟩
end Go.Proofs.Ytkbcofgigfnfaaa.pairp
