/- A cursor of a call's own over its code, and the draw of some text. -/
import Derived.Test.YtocjedheimhfoaaDraw
import Derived.Laws.IdiomStrings
import Derived.ProofKit
namespace Go.Proofs.Ytocjedheimhfoaa.drawany
open Go.RowKit ints draw
set_option linter.unusedVariables false

/-- A code that came in: bytes, in memory. -/
structure Code (w : World) (a : Option Addr) (zs : List Int) : Prop where
  bytes : ∀ i, i < zs.length → 0 ≤ zs.getD i 0 ∧ zs.getD i 0 ≤ 255
  reads : Reads .u8 w a zs
  len : zs.length ≤ 1048576

theorem Code.below {w w' : World} {a : Option Addr} {zs : List Int} (h : Code w a zs) (hb : Below w.heap.size w w') : Code w' a zs := ⟨h.bytes, h.reads.below hb, h.len⟩

theorem src_new {w : World} {a : Option Addr} {zs : List Int} (c : Nat) (h : Code w a zs) : Src (w.alloc (.cells #[.slice a zs.length c, .int .i64 0, .int .u64 0] 44)) w.heap.size a zs c 0 :=
  ⟨h.bytes, h.reads.below ((Below.refl _ _).alloc (Nat.le_refl _) _), h.reads.low, h.len, ⟨0, 0, heap_alloc_new w _, Nat.le_refl _⟩⟩

theorem below_new {w w' : World} {a : Option Addr} {zs : List Int} {c N : Nat} (o : Obj) (h : draw.Left w.heap.size a zs c N (w.alloc o) w') : Below w.heap.size w w' :=
  ((Below.refl _ _).alloc (Nat.le_refl _) o).trans (below_of_grown h.2 _ (Nat.le_refl _) (by simp))

theorem getD_small (l : List ByteArray) (m : Nat) (h : l.all (fun s => decide (s.size ≤ m)) = true) (i : Nat) : (l.getD i ByteArray.empty).size ≤ m := by
  rw [List.getD_eq_getElem?_getD]
  cases hx : l[i]? with
  | none => exact Nat.zero_le _
  | some x => exact of_decide_eq_true (List.all_eq_true.1 h x (List.mem_of_getElem? hx))

/-- One text of a list that the call lays itself: some text, no longer than is told; the cursor has moved on. -/
theorem of_list (l : List ByteArray) (m n : Nat) (hl : l.all (fun s => decide (s.size ≤ m)) = true) (g : Nat) (a : Option Addr) (zs : List Int) (c N : Nat) (w : World) (hn : n = l.length) (hl1 : 1 ≤ l.length) (hl2 : l.length ≤ 65536) (hs : Src w g a zs c N) (hN : N ≤ 1048000) :
    Calls Try.prog 26 #[.pointer (some ⟨g, 0, none⟩), .slice (some ⟨w.heap.size, 0, none⟩) n n] (w.alloc (.cells (l.map Value.string).toArray 9)) fun e w' => ∃ s : ByteArray, e = .returned (.string s) ∧ s.size ≤ m ∧ draw.Left g a zs c (N + 2) w w' := by
  have hsz := hs.cur.lt
  have hs1 := hs.below (((Below.refl (g + 1) w).alloc (by omega) (.cells (l.map Value.string).toArray 9)))
  refine (of_src l w.heap.size n 9 g a zs c N _ (heap_alloc_new w _) (by omega) hn hl1 hl2 hs1 hN).mono ?_
  rintro e w2 ⟨i, hi, rfl, hL2⟩
  exact ⟨_, rfl, getD_small l m hl i, hL2.1, World.grownBy.trans (World.grownBy_alloc w _ _) hL2.2⟩

theorem any1_left (g : Nat) (a : Option Addr) (zs : List Int) (c N : Nat) (w : World) (hs : Src w g a zs c N) (hN : N ≤ 1048000) :
    Calls Try.prog 25 #[.pointer (some ⟨g, 0, none⟩)] w fun e w' => ∃ s : ByteArray, e = .returned (.string s) ∧ s.size ≤ 10 ∧ draw.Left g a zs c (N + 2) w w' := by
  go_enter Try.func25, Try.ntmps25
  go_wp2_with fail
  refine (of_list [⟨#[]⟩, ⟨#[97]⟩, ⟨#[97, 44, 98]⟩, ⟨#[115, 111, 109, 101, 32, 119, 111, 114, 100, 115]⟩, ⟨#[120, 35, 121]⟩, ⟨#[45, 49, 50]⟩, ⟨#[0, 255]⟩, ⟨#[44, 44]⟩, ⟨#[48]⟩] 10 9 (by decide +kernel) g a zs c N w rfl (by simp) (by simp) hs hN).mono ?_
  rintro e w2 ⟨s, rfl, hz, hL2⟩
  go_wp2_with fail
  go_ret
  exact ⟨s, rfl, hz, hL2⟩
end Go.Proofs.Ytocjedheimhfoaa.drawany
