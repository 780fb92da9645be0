/- The walks of the model's and the program's tables of planes. -/
import Derived.Test.YtobdapalllaceaaBits
import Derived.Test.YtobdapalllaceaaPlanes
import Derived.Test.YtobdapalllaceaaDots
import Derived.Test.YtobdapalllaceaaGrid
import Derived.Deep.AppendLies
import Derived.Deep.RegionHeld3
import Derived.Deep.DrawnRows
namespace Go.Proofs.Ytobdapalllaceaa.tables
open Go.RowKit own pp nums planes dots bitw
set_option linter.unusedVariables false
set_option linter.unusedSimpArgs false
attribute [local go_sem ↓] Go.wp_at_zero Go.wp_at_succ

theorem infoInt : (Try.prog.info? 3).map (fun i => (i.zero, i.size, i.bytes)) = some (some (.int .i64 0), 1, 8) := by kernel_rfl
/-- 1 at the bit points with the side 1, and 0 at the others. -/
def bitAt (ws : List Int) (b : Int) (n j : Nat) : Int := if side ws b (bitsTo j n) = 1 then 1 else 0
def tabTo (ws : List Int) (b : Int) (n k : Nat) : List Int := (List.range k).map (bitAt ws b n)
theorem tabTo_length (ws : List Int) (b : Int) (n k : Nat) : (tabTo ws b n k).length = k := by simp [tabTo]
theorem tabTo_succ (ws : List Int) (b : Int) (n k : Nat) : tabTo ws b n (k + 1) = tabTo ws b n k ++ [bitAt ws b n k] := by simp [tabTo, List.range_succ]
theorem side_cases (ws : List Int) (b : Int) (xs : List Int) : side ws b xs = 1 ∨ side ws b xs = -1 := by unfold side; split <;> simp
theorem bits_small {ws : List Int} (h : numsB 99 ws = true) (j n : Nat) (hl : ws.length = n) : Small ws (bitsTo j n) := by
  intro k hk
  have h1 := numsB_at h k hk
  have h2 : 0 ≤ (bitsTo j n).getD k 0 ∧ (bitsTo j n).getD k 0 ≤ 1 := by
    rw [List.getD_eq_getElem?_getD]
    have : k < n := by omega
    simp only [bitsTo, List.getElem?_map, List.getElem?_range this, Option.map_some, Option.getD_some]
    omega
  have := mul_bd (A := 99) (B := 1) (x := ws.getD k 0) (y := (bitsTo j n).getD k 0) (by omega) (by omega) (by omega) (by omega)
  omega
/-- The first k numbers of the table, then zeros. -/
def filled (ws : List Int) (b : Int) (n m k : Nat) : List Value := (tabTo ws b n k).map (Value.int .i64) ++ List.replicate (m - k) (.int .i64 0)
theorem filled_zero (ws : List Int) (b : Int) (n m : Nat) : filled ws b n m 0 = List.replicate m (.int .i64 0) := by simp [filled, tabTo]
theorem filled_all (ws : List Int) (b : Int) (n m : Nat) : filled ws b n m m = (tabTo ws b n m).map (Value.int .i64) := by simp [filled]
theorem filled_one {ws : List Int} {b : Int} {n m k : Nat} (h : k < m) (h1 : bitAt ws b n k = 1) : (filled ws b n m k).set k (.int .i64 1) = filled ws b n m (k + 1) := by
  unfold filled
  rw [List.set_append, if_neg (by simp [tabTo_length]), show m - k = (m - (k + 1)) + 1 by omega, List.replicate_succ, List.length_map, tabTo_length, Nat.sub_self, List.set_cons_zero, tabTo_succ, List.map_append, List.append_assoc, h1]
  rfl
theorem filled_nil {ws : List Int} {b : Int} {n m k : Nat} (h : k < m) (h1 : bitAt ws b n k = 0) : filled ws b n m k = filled ws b n m (k + 1) := by
  unfold filled
  rw [show m - k = (m - (k + 1)) + 1 by omega, List.replicate_succ, tabTo_succ, List.map_append, List.append_assoc, h1]
  rfl
theorem filled_at (ws : List Int) (b : Int) (n m k : Nat) (h : k < m) : (filled ws b n m k)[k]? = some (.int .i64 0) := by
  unfold filled
  rw [List.getElem?_append_right (by simp [tabTo_length]), List.getElem?_replicate, if_pos (by simp [tabTo_length]; omega)]
end Go.Proofs.Ytobdapalllaceaa.tables
