/- Several texts in one. -/
import Derived.Deep.AppendLies
import Derived.Deep.DrawnRows
import Derived.Deep.RegionHeld3
import Derived.Test.YtoephhhofkmgjabSpG6
import Derived.Test.YtoephhhofkmgjabSpG15
import Derived.Test.YtoephhhofkmgjabSpG9
import Derived.Test.YtoephhhofkmgjabSpG17
namespace Go.Proofs.Ytoephhhofkmgjab.part
open Go.RowKit own own1 samplefns rowscopy
set_option linter.unusedVariables false
set_option linter.unusedSimpArgs false
attribute [local go_sem ↓] Go.wp_at_zero Go.wp_at_succ

/-- The points and labels at the first k places. -/
def pickR (rows : List (List Int)) (js : List Int) (k : Nat) : List (List Int) := (js.take k).map fun j => rows.getD j.toNat []
def pickL (zs js : List Int) (k : Nat) : List Int := (js.take k).map fun j => zs.getD j.toNat 0
theorem pickR_length (rows : List (List Int)) (js : List Int) (k : Nat) (h : k ≤ js.length) : (pickR rows js k).length = k := by simp [pickR]; omega
theorem pickL_length (zs js : List Int) (k : Nat) (h : k ≤ js.length) : (pickL zs js k).length = k := by simp [pickL]; omega
theorem pickR_succ (rows : List (List Int)) (js : List Int) (k n : Nat) (h : k < js.length) (e : js.getD k 0 = n) : pickR rows js (k + 1) = pickR rows js k ++ [rows.getD n []] := by
  unfold pickR
  rw [List.getD_eq_getElem?_getD, List.getElem?_eq_getElem h] at e
  rw [List.take_add_one, List.getElem?_eq_getElem h, List.map_append]
  simp at e ⊢
  rw [e]; simp
theorem pickL_succ (zs js : List Int) (k n : Nat) (h : k < js.length) (e : js.getD k 0 = n) : pickL zs js (k + 1) = pickL zs js k ++ [zs.getD n 0] := by
  unfold pickL
  rw [List.getD_eq_getElem?_getD, List.getElem?_eq_getElem h] at e
  rw [List.take_add_one, List.getElem?_eq_getElem h, List.map_append]
  simp at e ⊢
  rw [e]; simp
theorem fro_old {w : World} (O : Obj) {b o : Nat} (hb : b < w.heap.size) (hx : w.frozen? ⟨b, o, none⟩ = false) : (w.alloc O).frozen? ⟨b, o, none⟩ = false := fro_below (below_alloc w O) hx hb
theorem cell_oldD {w : World} (O : Obj) {b o : Nat} {x : Value} (hx : w.cell? ⟨b, o, none⟩ = some x) : ((w.alloc O).drew).cell? ⟨b, o, none⟩ = some x := cell_old O hx
theorem fro_oldD {w : World} (O : Obj) {b o : Nat} (hb : b < w.heap.size) (hx : w.frozen? ⟨b, o, none⟩ = false) : ((w.alloc O).drew).frozen? ⟨b, o, none⟩ = false := fro_old O hb hx
end Go.Proofs.Ytoephhhofkmgjab.part
