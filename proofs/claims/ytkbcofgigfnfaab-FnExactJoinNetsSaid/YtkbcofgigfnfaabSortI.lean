/- The walks of slices.Sort and slices.Compact at a list of integers that the call owns, by the library's contracts. -/
import Derived.Test.YtkbcofgigfnfaabBndP
import Derived.Test.YtkbcofgigfnfaabOwnG
import Derived.Test.YtkbcofgigfnfaabShelf
import Derived.Shelf.Sort.Plain
import Derived.Shelf.Slices.CompactI
import Derived.Lib.RowBridge
namespace Go.Proofs.Ytkbcofgigfnfaab.sorti
open Go.RowKit own Go.Sort Go.Shelf
set_option linter.unusedVariables false
set_option linter.unusedSimpArgs false

section
variable {α : Type} [Inhabited α]
theorem put_size (enc : α → Value) (off : Nat) (d : Array α) (c : Array Value) : (putCells enc off d c).size = c.size := by unfold putCells; rw [Array.size_mapIdx]
theorem put_take (enc : α → Value) (d : Array α) (c : Array Value) (h : d.size ≤ c.size) : (putCells enc 0 d c).toList.take d.size = d.toList.map enc := by
  refine List.ext_getElem? fun j => ?_
  rw [List.getElem?_take, List.getElem?_map]
  by_cases hj : j < d.size
  · rw [if_pos hj, Array.getElem?_toList, Array.getElem?_toList]
    unfold putCells
    rw [Array.getElem?_mapIdx, Array.getElem?_eq_getElem (show j < c.size by omega), Array.getElem?_eq_getElem hj, Option.map_some, Option.map_some, if_pos (by omega), Nat.sub_zero, getElem!_pos d j hj]
  · rw [if_neg hj, Array.getElem?_toList, Array.getElem?_eq_none (by omega)]
    rfl
end
abbrev swW (w : World) (n blk : Nat) (d : Array Int) (os : Array Obj) : World := grow (putRow (Value.int .i64) (Sort.ahead w n) blk 0 d) os
theorem w_block (w : World) (n blk : Nat) (d : Array Int) (os : Array Obj) {g : Nat} (hne : g ≠ blk) (hg : g < w.heap.size) : (swW w n blk d os).heap[g]? = w.heap[g]? := by
  show ((w.heap.modify blk (onCells (putCells (Value.int .i64) 0 d))) ++ os)[g]? = _
  rw [Array.getElem?_append_left (by rw [Array.size_modify]; exact hg), Array.getElem?_modify, if_neg (Ne.symm hne)]
theorem w_row (w : World) (n blk : Nat) (d : Array Int) (os : Array Obj) {c : Array Value} {e : TypeId} {fr : Nat × Nat} (h : w.heap[blk]? = some (.cells c e fr)) : (swW w n blk d os).heap[blk]? = some (.cells (putCells (Value.int .i64) 0 d c) e fr) := by
  have hlt : blk < w.heap.size := (Array.getElem?_eq_some_iff.1 h).1
  show ((w.heap.modify blk (onCells (putCells (Value.int .i64) 0 d))) ++ os)[blk]? = _
  rw [Array.getElem?_append_left (by rw [Array.size_modify]; exact hlt), Array.getElem?_modify, if_pos rfl, h]
  rfl
theorem w_size (w : World) (n blk : Nat) (d : Array Int) (os : Array Obj) : w.heap.size ≤ (swW w n blk d os).heap.size := by
  show _ ≤ ((w.heap.modify blk (onCells (putCells (Value.int .i64) 0 d))) ++ os).size
  rw [Array.size_append, Array.size_modify]; omega
theorem w_below (w : World) (n blk : Nat) (d : Array Int) (os : Array Obj) {B : Nat} (hB : B ≤ blk) (hb : blk < w.heap.size) : Go.RowKit.Below B w (swW w n blk d os) :=
  ⟨rfl, rfl, rfl, w_size _ _ _ _ _, fun k hk => w_block _ _ _ _ _ (by omega) (by omega)⟩
theorem holds_of {lo gl cp : Nat} {zs : List Int} {w : World} (ho : w.ownsRow lo 3 1 (.slice (some ⟨gl, 0, none⟩) zs.length cp) zs.length (zs.map (Value.int .i64))) : Holds (Value.int .i64) w gl 0 zs.toArray := by
  intro j hj
  have hj2 : j < zs.length := by simpa using hj
  rw [Nat.zero_add]
  refine ⟨?_, ho.frozenAt j⟩
  rw [ho.cellAt j (by omega), List.getElem?_map, List.getElem?_eq_getElem hj2, getElem!_pos zs.toArray j hj]
  simp
/-- The own row with other numbers in it, the same or fewer. -/
theorem row_put {lo gl cp m : Nat} {zs ys : List Int} {w : World} (ho : w.ownsRow lo 3 1 (.slice (some ⟨gl, 0, none⟩) zs.length cp) zs.length (zs.map (Value.int .i64))) (n : Nat) (d : Array Int) (os : Array Obj) (hd : d.size = zs.length) (hm : ys.length = m) (hy : d.toList.take m = ys) (hle : m ≤ zs.length) :
    (swW w n gl d os).ownsRow lo 3 1 (.slice (some ⟨gl, 0, none⟩) m cp) m (ys.map (Value.int .i64)) := by
  rcases ho.2 with ⟨e, _⟩ | ⟨g, cap, cur, e, hlo2, hh, hnc, hmx, hcs2, htake⟩
  · cases e
  · cases e
    refine ⟨by rw [List.length_map]; omega, .inr ⟨gl, cp, putCells (Value.int .i64) 0 d cur, rfl, hlo2, w_row _ _ _ _ _ hh, by omega, hmx, by rw [put_size]; exact hcs2, ?_⟩⟩
    have h1 := put_take (Value.int .i64) d cur (by omega)
    have h2 := congrArg (List.take m) h1
    rw [List.take_take, show min m d.size = m by omega, ← List.map_take, hy] at h2
    rw [Nat.mul_one]
    exact h2
end Go.Proofs.Ytkbcofgigfnfaab.sorti
