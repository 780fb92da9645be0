/- The ends of the products of weights and points: plain data, and the walks of the model and the program. -/
import Derived.Test.YtkbcofgigfnfaaaMargin
import Derived.Test.YtkbcofgigfnfaaaMost
namespace Go.Proofs.Ytkbcofgigfnfaaa.ends
open Go.RowKit own pp nums samplesv samplest dots both sides margin most
set_option linter.unusedVariables false
set_option linter.unusedSimpArgs false
attribute [local go_sem ↓] Go.wp_at_zero Go.wp_at_succ

/-- The least product of weights and one of the first k points with the label 1, and the greatest with another one. -/
def lowTo (rows : List (List Int)) (zs ws : List Int) (L : Int) : Nat → Int
  | 0 => L
  | k + 1 => if zs.getD k 0 = 1 then min (lowTo rows zs ws L k) (dot ws (rows.getD k [])) else lowTo rows zs ws L k
def highTo (rows : List (List Int)) (zs ws : List Int) (H : Int) : Nat → Int
  | 0 => H
  | k + 1 => if zs.getD k 0 = 1 then highTo rows zs ws H k else max (highTo rows zs ws H k) (dot ws (rows.getD k []))
theorem low_bd (rows : List (List Int)) (zs ws : List Int) (L : Int) (hL : 3564 ≤ L) (k : Nat) (h : ∀ j, j < k → -3564 ≤ dot ws (rows.getD j []) ∧ dot ws (rows.getD j []) ≤ 3564) : -3564 ≤ lowTo rows zs ws L k ∧ lowTo rows zs ws L k ≤ L := by
  induction k with
  | zero => unfold lowTo; omega
  | succ k ih =>
    have h1 := ih fun j hj => h j (by omega)
    have h2 := h k (by omega)
    unfold lowTo
    split <;> omega
theorem high_bd (rows : List (List Int)) (zs ws : List Int) (H : Int) (hH : H ≤ -3564) (k : Nat) (h : ∀ j, j < k → -3564 ≤ dot ws (rows.getD j []) ∧ dot ws (rows.getD j []) ≤ 3564) : H ≤ highTo rows zs ws H k ∧ highTo rows zs ws H k ≤ 3564 := by
  induction k with
  | zero => unfold highTo; omega
  | succ k ih =>
    have h1 := ih fun j hj => h j (by omega)
    have h2 := h k (by omega)
    unfold highTo
    split <;> omega
theorem low_eq (rows : List (List Int)) (zs ws : List Int) (L L' : Int) (hL : 3564 ≤ L) (hL' : 3564 ≤ L') (k : Nat) (h : ∀ j, j < k → -3564 ≤ dot ws (rows.getD j []) ∧ dot ws (rows.getD j []) ≤ 3564) :
    ((∀ j, j < k → zs.getD j 0 ≠ 1) ∧ lowTo rows zs ws L k = L ∧ lowTo rows zs ws L' k = L') ∨ (lowTo rows zs ws L k = lowTo rows zs ws L' k ∧ lowTo rows zs ws L k ≤ 3564) := by
  induction k with
  | zero => left; exact ⟨fun j hj => by omega, rfl, rfl⟩
  | succ k ih =>
    have h1 := ih fun j hj => h j (by omega)
    have h2 := h k (by omega)
    unfold lowTo
    by_cases e : zs.getD k 0 = 1
    · rw [if_pos e, if_pos e]
      right
      rcases h1 with ⟨_, a, b⟩ | ⟨a, b⟩
      · rw [a, b]; omega
      · rw [← a]; omega
    · rw [if_neg e, if_neg e]
      rcases h1 with ⟨c, a, b⟩ | h1
      · left
        refine ⟨fun j hj => ?_, a, b⟩
        by_cases ej : j = k
        · rw [ej]; exact e
        · exact c j (by omega)
      · right; exact h1
theorem high_eq (rows : List (List Int)) (zs ws : List Int) (H H' : Int) (hH : H ≤ -3564) (hH' : H' ≤ -3564) (k : Nat) (h : ∀ j, j < k → -3564 ≤ dot ws (rows.getD j []) ∧ dot ws (rows.getD j []) ≤ 3564) :
    ((∀ j, j < k → zs.getD j 0 = 1) ∧ highTo rows zs ws H k = H ∧ highTo rows zs ws H' k = H') ∨ (highTo rows zs ws H k = highTo rows zs ws H' k ∧ -3564 ≤ highTo rows zs ws H k) := by
  induction k with
  | zero => left; exact ⟨fun j hj => by omega, rfl, rfl⟩
  | succ k ih =>
    have h1 := ih fun j hj => h j (by omega)
    have h2 := h k (by omega)
    unfold highTo
    by_cases e : zs.getD k 0 = 1
    · rw [if_pos e, if_pos e]
      rcases h1 with ⟨c, a, b⟩ | h1
      · left
        refine ⟨fun j hj => ?_, a, b⟩
        by_cases ej : j = k
        · rw [ej]; exact e
        · exact c j (by omega)
      · right; exact h1
    · rw [if_neg e, if_neg e]
      right
      rcases h1 with ⟨_, a, b⟩ | ⟨a, b⟩
      · rw [a, b]; omega
      · rw [← a]; omega

def RetNN (n m : Int) (w : World) (e : Ending) (w' : World) : Prop := e = .returned (.tuple #[.int .i64 n, .int .i64 m]) ∧ Below w.heap.size w w'
end Go.Proofs.Ytkbcofgigfnfaaa.ends
