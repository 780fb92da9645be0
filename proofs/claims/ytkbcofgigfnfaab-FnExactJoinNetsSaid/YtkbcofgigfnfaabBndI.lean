/- The walk of the program's bounds of stumps. -/
import Derived.Test.YtkbcofgigfnfaabSortI
import Derived.Test.YtkbcofgigfnfaabMk
import Derived.Test.YtkbcofgigfnfaabPlainPlane
namespace Go.Proofs.Ytkbcofgigfnfaab.bndi
open Go.RowKit own pp nums bndp sorti
set_option linter.unusedVariables false
set_option linter.unusedSimpArgs false

/-- The numbers of all points at a place, by a weight. -/
def valsL (rows : List (List Int)) (pl : Nat) (wt : Int) (k : Nat) : List Int := (rows.take k).map fun r => wt * r.getD pl 0
theorem vals_length (rows : List (List Int)) (pl : Nat) (wt : Int) (k : Nat) (h : k ≤ rows.length) : (valsL rows pl wt k).length = k := by simp [valsL]; omega
theorem vals_succ (rows : List (List Int)) (pl : Nat) (wt : Int) (k : Nat) (h : k < rows.length) : valsL rows pl wt (k + 1) = valsL rows pl wt k ++ [wt * (rows.getD k []).getD pl 0] := by
  unfold valsL
  rw [List.take_succ_eq_append_getElem h, List.map_append, List.getD_eq_getElem?_getD (l := rows), List.getElem?_eq_getElem h]
  rfl
def PlFit (rows : List (List Int)) (pl : Nat) : Prop := ∀ k, k < rows.length → pl < (rows.getD k []).length ∧ -9 ≤ (rows.getD k []).getD pl 0 ∧ (rows.getD k []).getD pl 0 ≤ 9
theorem wt_bd {z wt : Int} (h : -9 ≤ z ∧ z ≤ 9) (hw : wt = 1 ∨ wt = -1) : -9 ≤ wt * z ∧ wt * z ≤ 9 := by rcases hw with rfl | rfl <;> omega
theorem vals_bd {rows : List (List Int)} {pl : Nat} {wt : Int} (h : PlFit rows pl) (hw : wt = 1 ∨ wt = -1) (k : Nat) (hk : k ≤ rows.length) : ∀ x ∈ valsL rows pl wt k, -9 ≤ x ∧ x ≤ 9 := by
  intro x hx
  induction k with
  | zero => simp [valsL] at hx
  | succ k ih =>
    rw [vals_succ rows pl wt k (by omega), List.mem_append, List.mem_singleton] at hx
    rcases hx with hx | rfl
    · exact ih (by omega) hx
    · exact wt_bd (h k (by omega)).2 hw
def bnds (rows : List (List Int)) (pl : Nat) (wt : Int) : List Int := bndL (valsL rows pl wt rows.length)

end Go.Proofs.Ytkbcofgigfnfaab.bndi
