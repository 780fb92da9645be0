/- Several texts in one. -/
import Derived.Test.YtoephhhofkmgjabSpG23
import Derived.Test.YtoephhhofkmgjabSpG15
import Derived.Test.YtoephhhofkmgjabSpG12
namespace Go.Proofs.Ytoephhhofkmgjab.told
open Go.RowKit own own1 pp range samplefns rowscopy part bitw
set_option linter.unusedVariables false
set_option linter.unusedSimpArgs false
attribute [local go_sem ↓] Go.wp_at_zero Go.wp_at_succ

/-- The points and labels at the first k places of a table. -/
def toldR (n k : Nat) : List (List Int) := (List.range k).map fun j => bitsTo j n
def toldL (zs : List Int) (k : Nat) : List Int := (zs.take k).map fun z => 2 * z - 1
theorem toldR_length (n k : Nat) : (toldR n k).length = k := by simp [toldR]
theorem toldL_length (zs : List Int) (k : Nat) (h : k ≤ zs.length) : (toldL zs k).length = k := by simp [toldL]; omega
theorem toldR_succ (n k : Nat) : toldR n (k + 1) = toldR n k ++ [bitsTo k n] := by simp [toldR, List.range_succ]
theorem toldL_succ (zs : List Int) (k : Nat) (h : k < zs.length) : toldL zs (k + 1) = toldL zs k ++ [2 * zs.getD k 0 - 1] := by
  unfold toldL
  rw [List.take_add_one, List.getElem?_eq_getElem h, List.map_append, List.getD_eq_getElem?_getD, List.getElem?_eq_getElem h]
  simp
end Go.Proofs.Ytoephhhofkmgjab.told
