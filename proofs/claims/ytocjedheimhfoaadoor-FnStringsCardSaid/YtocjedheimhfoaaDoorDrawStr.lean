/- What the draws of chapter 1 hand back: some number, some text, no longer than is told. -/
import Derived.Test.YtocjedheimhfoaaDoorDraw
import Derived.Test.YtocjedheimhfoaaDoorNum
import Derived.Laws.IdiomStrings
import Derived.ProofKit
namespace Go.Proofs.YtocjedheimhfoaaDoor.drawstr
open Go.RowKit ints draw num
set_option linter.unusedVariables false

/-- A code that came in: bytes, in memory. -/
structure Code (w : World) (a : Option Addr) (zs : List Int) : Prop where
  bytes : ∀ i, i < zs.length → 0 ≤ zs.getD i 0 ∧ zs.getD i 0 ≤ 255
  reads : Reads .u8 w a zs
  len : zs.length ≤ 1048576

theorem Code.below {w w' : World} {a : Option Addr} {zs : List Int} (h : Code w a zs) (hb : Below w.heap.size w w') : Code w' a zs := ⟨h.bytes, h.reads.below hb, h.len⟩

theorem src_new {w : World} {a : Option Addr} {zs : List Int} (c : Nat) (h : Code w a zs) : Src (w.alloc (.cells #[.slice a zs.length c, .int .i64 0, .int .u64 0] 37)) w.heap.size a zs c 0 :=
  ⟨h.bytes, h.reads.below ((Below.refl _ _).alloc (Nat.le_refl _) _), h.reads.low, h.len, ⟨0, 0, heap_alloc_new w _, Nat.le_refl _⟩⟩

theorem below_new {w w' : World} {a : Option Addr} {zs : List Int} {c N : Nat} (o : Obj) (h : draw.Left w.heap.size a zs c N (w.alloc o) w') : Below w.heap.size w w' :=
  ((Below.refl _ _).alloc (Nat.le_refl _) o).trans (below_of_grown h.2 _ (Nat.le_refl _) (by simp))

set_option maxHeartbeats 1000000 in
theorem formatInt_any (a : Option Addr) (zs : List Int) (c : Nat) (w : World) (h : Code w a zs) :
    Calls Tryd.prog 9 #[.slice a zs.length c] w fun e w' => ∃ z : Int, e = .returned (.int .i64 z) ∧ -1000000 ≤ z ∧ z ≤ 1000000 ∧ Below w.heap.size w w' := by
  have hs := src_new c h
  go_enter Tryd.func9, Tryd.ntmps9
  go_wp2_with fail
  refine (pick_src 1000 _ a zs c 0 _ (by omega) (by omega) hs (by omega)).mono ?_
  rintro e w1 ⟨x, rfl, hx0, hx1, hL1⟩
  have hsz := hL1.1.cur.lt
  go_wp2_with fail
  have hs1 := hL1.1.below (((Below.refl (w.heap.size + 1) w1).alloc (by omega) (.cells #[.int .i64 0, .int .i64 1, .int .i64 (-1), .int .i64 10, .int .i64 999999, .int .i64 (-999999), .int .i64 1000000, .int .i64 (-1000000), .int .i64 (x - 500)] 3)))
  refine (among_src [0, 1, -1, 10, 999999, -999999, 1000000, -1000000, x - 500] w1.heap.size 9 3 w.heap.size a zs c 2 _ (heap_alloc_new w1 _) (by omega) rfl (by simp) (by simp) hs1 (by omega)).mono ?_
  rintro e w2 ⟨i, hi, rfl, hL2⟩
  go_wp2_with fail
  go_ret
  have hb2 : Below w.heap.size w w2 := ((below_new _ hL1).alloc (by omega) _).trans (below_of_grown hL2.2 _ (Nat.le_refl _) (by simp; omega))
  refine ⟨_, rfl, ?_, ?_, hb2⟩
  · match i, hi with
    | 0, _ | 1, _ | 2, _ | 3, _ | 4, _ | 5, _ | 6, _ | 7, _ | 8, _ => simp <;> omega
  · match i, hi with
    | 0, _ | 1, _ | 2, _ | 3, _ | 4, _ | 5, _ | 6, _ | 7, _ | 8, _ => simp <;> omega

theorem getD_small (l : List ByteArray) (m : Nat) (h : l.all (fun s => decide (s.size ≤ m)) = true) (i : Nat) : (l.getD i ByteArray.empty).size ≤ m := by
  rw [List.getD_eq_getElem?_getD]
  cases hx : l[i]? with
  | none => exact Nat.zero_le _
  | some x => exact of_decide_eq_true (List.all_eq_true.1 h x (List.mem_of_getElem? hx))

set_option maxHeartbeats 1000000 in
theorem parseInt_any (a : Option Addr) (zs : List Int) (c : Nat) (w : World) (h : Code w a zs) :
    Calls Tryd.prog 12 #[.slice a zs.length c] w fun e w' => ∃ s : ByteArray, e = .returned (.string s) ∧ s.size ≤ 4000 ∧ Below w.heap.size w w' := by
  have hs := src_new c h
  go_enter Tryd.func12, Tryd.ntmps12
  go_wp2_with fail
  refine (one_src 2 _ a zs c 0 _ (by omega) (by omega) hs (by omega)).mono ?_
  rintro e w1 ⟨x, rfl, hL1⟩
  have hsz := hL1.1.cur.lt
  cases x with
  | true =>
    go_wp2_with fail
    have hs1 := hL1.1.below (((Below.refl (w.heap.size + 1) w1).alloc (by omega) (.cells (([⟨#[]⟩, ⟨#[45]⟩, ⟨#[45, 48]⟩, ⟨#[48, 48]⟩, ⟨#[48, 49]⟩, ⟨#[45, 45, 49]⟩, ⟨#[49, 120]⟩, ⟨#[57, 57, 57, 57, 57, 57]⟩, ⟨#[49, 48, 48, 48, 48, 48, 48]⟩, ⟨#[45, 57, 57, 57, 57, 57, 57]⟩, ⟨#[49, 56, 52, 52, 54, 55, 52, 52, 48, 55, 51, 55, 48, 57, 53, 53, 49, 54, 49, 55]⟩] : List ByteArray).map Value.string).toArray 9)))
    refine (of_src [⟨#[]⟩, ⟨#[45]⟩, ⟨#[45, 48]⟩, ⟨#[48, 48]⟩, ⟨#[48, 49]⟩, ⟨#[45, 45, 49]⟩, ⟨#[49, 120]⟩, ⟨#[57, 57, 57, 57, 57, 57]⟩, ⟨#[49, 48, 48, 48, 48, 48, 48]⟩, ⟨#[45, 57, 57, 57, 57, 57, 57]⟩, ⟨#[49, 56, 52, 52, 54, 55, 52, 52, 48, 55, 51, 55, 48, 57, 53, 53, 49, 54, 49, 55]⟩] w1.heap.size 11 9 w.heap.size a zs c 2 _ (heap_alloc_new w1 _) (by omega) rfl (by simp) (by simp) hs1 (by omega)).mono ?_
    rintro e w2 ⟨i, hi, rfl, hL2⟩
    have hz := getD_small [⟨#[]⟩, ⟨#[45]⟩, ⟨#[45, 48]⟩, ⟨#[48, 48]⟩, ⟨#[48, 49]⟩, ⟨#[45, 45, 49]⟩, ⟨#[49, 120]⟩, ⟨#[57, 57, 57, 57, 57, 57]⟩, ⟨#[49, 48, 48, 48, 48, 48, 48]⟩, ⟨#[45, 57, 57, 57, 57, 57, 57]⟩, ⟨#[49, 56, 52, 52, 54, 55, 52, 52, 48, 55, 51, 55, 48, 57, 53, 53, 49, 54, 49, 55]⟩] 4000 (by decide +kernel) i
    have hb2 : Below w.heap.size w w2 := ((below_new _ hL1).alloc (by omega) _).trans (below_of_grown hL2.2 _ (Nat.le_refl _) (by simp; omega))
    generalize List.getD _ i ByteArray.empty = s at *
    go_wp2_with fail
    go_ret
    exact ⟨s, rfl, hz, hb2⟩
  | false =>
    go_wp2_with fail
    refine (pick_src 2000 _ a zs c 2 _ (by omega) (by omega) hL1.1 (by omega)).mono ?_
    rintro e w2 ⟨x, rfl, hx0, hx1, hL2⟩
    have hb2 : Below w.heap.size w w2 := below_new _ (hL1.trans hL2)
    have hz : (txt (Lib.itoa (x - 1000))).size ≤ 4000 := by
      rw [size_txt]
      have := Lib.itoa_length_le (x - 1000) (by omega) (by omega)
      omega
    go_wp2_with fail
    refine (num.any _ _ (by omega) (by omega)).mono ?_
    rintro e w3 ⟨rfl, k, rfl⟩
    go_wp2_with fail
    go_ret
    exact ⟨_, rfl, hz, below_drewN hb2 k⟩

theorem any1_src (g : Nat) (a : Option Addr) (zs : List Int) (c N : Nat) (w : World) (hs : Src w g a zs c N) (hN : N ≤ 1048000) :
    Calls Tryd.prog 30 #[.pointer (some ⟨g, 0, none⟩)] w fun e w' => ∃ s : ByteArray, e = .returned (.string s) ∧ s.size ≤ 10 ∧ Src w' g a zs c (N + 2) ∧ Below g w w' := by
  have hsz := hs.cur.lt
  go_enter Tryd.func30, Tryd.ntmps30
  go_wp2_with fail
  have hs1 := hs.below (((Below.refl (g + 1) w).alloc (by omega) (.cells (([⟨#[]⟩, ⟨#[97]⟩, ⟨#[97, 44, 98]⟩, ⟨#[115, 111, 109, 101, 32, 119, 111, 114, 100, 115]⟩, ⟨#[120, 35, 121]⟩, ⟨#[45, 49, 50]⟩, ⟨#[0, 255]⟩, ⟨#[44, 44]⟩, ⟨#[48]⟩] : List ByteArray).map Value.string).toArray 9)))
  refine (of_src [⟨#[]⟩, ⟨#[97]⟩, ⟨#[97, 44, 98]⟩, ⟨#[115, 111, 109, 101, 32, 119, 111, 114, 100, 115]⟩, ⟨#[120, 35, 121]⟩, ⟨#[45, 49, 50]⟩, ⟨#[0, 255]⟩, ⟨#[44, 44]⟩, ⟨#[48]⟩] w.heap.size 9 9 g a zs c N _ (heap_alloc_new w _) (by omega) rfl (by simp) (by simp) hs1 hN).mono ?_
  rintro e w2 ⟨i, hi, rfl, hL2⟩
  have hz := getD_small [⟨#[]⟩, ⟨#[97]⟩, ⟨#[97, 44, 98]⟩, ⟨#[115, 111, 109, 101, 32, 119, 111, 114, 100, 115]⟩, ⟨#[120, 35, 121]⟩, ⟨#[45, 49, 50]⟩, ⟨#[0, 255]⟩, ⟨#[44, 44]⟩, ⟨#[48]⟩] 10 (by decide +kernel) i
  have hb2 : Below g w w2 := ((Below.refl g w).alloc (by omega) _).trans (below_of_grown hL2.2 _ (Nat.le_refl _) (by simp; omega))
  generalize List.getD _ i ByteArray.empty = s at *
  go_wp2_with fail
  go_ret
  exact ⟨s, rfl, hz, hL2.1, hb2⟩

theorem infoByte : (Tryd.prog.info? 5).map (fun i => (i.zero, i.size, i.bytes)) = some (some (.int .u8 0), 1, 1) := by kernel_rfl

set_option maxHeartbeats 1000000 in
theorem appendChecksum_any (a : Option Addr) (zs : List Int) (c : Nat) (w : World) (h : Code w a zs) :
    Calls Tryd.prog 15 #[.slice a zs.length c] w fun e w' => ∃ s : ByteArray, e = .returned (.string s) ∧ s.size ≤ 4000 ∧ Below w.heap.size w w' := by
  have hs := src_new c h
  obtain ⟨i0, hi, hz0, hz1, hz2⟩ := info_parts infoByte
  go_enter Tryd.func15, Tryd.ntmps15
  go_wp2_with fail
  refine (one_src 20 _ a zs c 0 _ (by omega) (by omega) hs (by omega)).mono ?_
  rintro e w1 ⟨x, rfl, hL1⟩
  have hsz := hL1.1.cur.lt
  cases x with
  | true =>
    go_wp2_with fail
    refine (pick_src 10 _ a zs c 2 _ (by omega) (by omega) hL1.1 (by omega)).mono ?_
    rintro e w2 ⟨x, rfl, hx0, hx1, hL2⟩
    have hb2 : Below w.heap.size w w2 := below_new _ (hL1.trans hL2)
    have HB2 := Lib.hid hb2
    clear hb2
    obtain ⟨n, rfl⟩ := Int.eq_ofNat_of_zero_le hx0
    go_wp2_with (refine wpList_make_full _ rfl _ _ 22 rfl w2.heap.size 5 i0 (.int .u8 0) 1 Tryd.underlying22 hi hz0 hz1 .i64 .i64 _ _ (3990 + n) rfl rfl (by omega) (by omega) (by rw [hz2]; omega) (by unfold maxLen; omega) (Nat.le_refl _) ?_; intro w3 hown3 hgrow3; refine Hid.out ?_)
    refine Lib.hid ?_
    have hcells : ∀ j, j < 3990 + n → w3.cell? ⟨w2.heap.size, j, none⟩ = some (.int .u8 0) := by
      intro j hj
      rw [hown3.cellAt j (by omega), show (Value.int .u8 0).cells = #[Value.int .u8 0] from rfl, Nat.mul_one, toList_madeCells_one, List.getElem?_replicate, if_pos hj]
    have hb3 : Below w.heap.size w w3 := HB2.out.grown hgrow3 HB2.out.size (by simp)
    have HB3 := Lib.hid hb3
    obtain ⟨s, hs', hconv⟩ : ∃ s : ByteArray, s.size ≤ 4000 ∧ (convert 22 9 (.slice (some ⟨w2.heap.size, 0, none⟩) (3990 + n) (3990 + n))).run Tryd.prog w3 = .ok (.string s) w3 := by
      refine ⟨⟨(List.replicate (3990 + n) 0).toArray⟩, by show (List.replicate (3990 + n) (0 : UInt8)).toArray.size ≤ 4000; simp; omega, ?_⟩
      have := run_convert_bytes_back (P := Tryd.prog) w3 22 9 5 ⟨w2.heap.size, 0, none⟩ (3990 + n) (List.replicate (3990 + n) (0 : UInt8)) Tryd.underlying22 Tryd.underlying5 Tryd.underlying9 (fun j hj => by
        rw [List.length_replicate] at hj
        rw [List.getElem_replicate]
        rw [Go.WideShapes.add_plain, Nat.zero_add]
        exact hcells j hj)
      rw [List.length_replicate] at this
      exact this
    clear hcells hown3 hgrow3 hb3
    go_wp2_with fail
    go_ret
    exact ⟨s, rfl, hs', HB3.out⟩
  | false =>
    go_wp2_with fail
    refine (any1_src _ a zs c 2 _ hL1.1 (by omega)).mono ?_
    rintro e w2 ⟨s, rfl, hz, hs2, hb2⟩
    have hb3 : Below w.heap.size w w2 := (below_new _ hL1).trans hb2
    go_wp2_with fail
    go_ret
    exact ⟨s, rfl, by omega, hb3⟩
end Go.Proofs.YtocjedheimhfoaaDoor.drawstr
