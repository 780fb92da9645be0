/- The walks of the program's sample of changed points, for each function that changes them. -/
import Derived.Test.YtoephhhofkmgjabRowsCopy
import Derived.Test.YtoephhhofkmgjabSampleFns
import Derived.Test.YtoephhhofkmgjabShelf
namespace Go.Proofs.Ytoephhhofkmgjab.changed
open Go.RowKit own rowscopy samplefns
set_option linter.unusedVariables false
set_option linter.unusedSimpArgs false

theorem map_getD (f : List Int → List Int) (rows : List (List Int)) (k : Nat) (h : k < rows.length) : (rows.map f).getD k [] = f (rows.getD k []) := by
  rw [List.getD_eq_getElem?_getD, List.getD_eq_getElem?_getD, List.getElem?_map, List.getElem?_eq_getElem h]; rfl
theorem clone_any (a : Option Addr) (zs : List Int) (c : Nat) (w : World) (hr : ints.Reads .i64 w a zs) (hn : zs.length ≤ 1048576) :
    Calls Try.prog 44 #[.slice a zs.length c] w (intfns.Made zs w) := by
  cases a with
  | none =>
    obtain rfl : zs = [] := by rcases hr with h | ⟨b, off, e, _⟩; exact h; cases e
    refine (Try.slices_Clone_int_nil _ _ _).mono ?_
    rintro e w' ⟨rfl, rfl⟩
    exact ⟨_, rfl, OwnI.nil _ _ _, Below.refl _ _⟩
  | some ad =>
    by_cases h0 : zs.length = 0
    · obtain rfl : zs = [] := List.length_eq_zero_iff.1 h0
      refine (Try.slices_Clone_int_zero _ _ _).mono ?_
      rintro e w' ⟨v, rfl, ho, _, hb⟩
      exact ⟨v, rfl, OwnI.of ho, hb⟩
    · obtain ⟨b, off, e, hb, hc⟩ := own1.reads_pos hr (by omega)
      cases e
      refine (Try.slices_Clone_int b off zs.length c zs w (Nat.le_refl _) (by omega) hc).mono ?_
      rintro e w' ⟨v, rfl, ho, _, hb⟩
      rw [List.take_length] at ho
      exact ⟨v, rfl, OwnI.of ho, hb⟩
set_option maxRecDepth 100000 in
set_option maxHeartbeats 4000000 in
theorem impl_clone (f : List Int → List Int) (a : Option Addr) (rows : List (List Int)) (c : Nat) (a' : Option Addr) (zs : List Int) (c' : Nat) (w : World) (hr : grid.Reads w a rows) (hz : ints.Reads .i64 w a' zs) (hn : rows.length ≤ 1048576) (hk : zs.length ≤ 1048576)
    (HC : Hid (∀ (k : Nat) (W : World) (p : Option Addr) (q : Nat), k < rows.length → Below w.heap.size w W → ints.Reads .i64 W p (rows.getD k []) → Calls Try.prog 44 #[.slice p (rows.getD k []).length q] W (intfns.Made (f (rows.getD k [])) W))) :
    Calls Try.prog 68 #[.agg #[.slice a rows.length c, .slice a' zs.length c'], .func (.func 44) #[] #[]] w (MadeS (rows.map f) zs w) := by
  obtain ⟨i0, hi, hz0, hz1, hz2⟩ := info_parts infoInts
  have HR := Lib.hid hr
  have HZ := Lib.hid hz
  clear hr hz
  have x0 : ((w.alloc (.cells #[.slice a rows.length c, .slice a' zs.length c'] 56)).alloc (.cells #[.slice none 0 0, .slice none 0 0] 56)).cell? ⟨w.heap.size, 0, none⟩ = some (.slice a rows.length c) := cell_old _ (cell_new _ _ _ rfl rfl)
  have x1 : ((w.alloc (.cells #[.slice a rows.length c, .slice a' zs.length c'] 56)).alloc (.cells #[.slice none 0 0, .slice none 0 0] 56)).cell? ⟨w.heap.size, 1, none⟩ = some (.slice a' zs.length c') := cell_old _ (cell_new _ _ _ rfl rfl)
  have y0 : ((w.alloc (.cells #[.slice a rows.length c, .slice a' zs.length c'] 56)).alloc (.cells #[.slice none 0 0, .slice none 0 0] 56)).cell? ⟨w.heap.size + 1, 0, none⟩ = some (.slice none 0 0) := cell_new _ _ _ (by simp) rfl
  have y1 : ((w.alloc (.cells #[.slice a rows.length c, .slice a' zs.length c'] 56)).alloc (.cells #[.slice none 0 0, .slice none 0 0] 56)).cell? ⟨w.heap.size + 1, 1, none⟩ = some (.slice none 0 0) := cell_new _ _ _ (by simp) rfl
  have z0 : ((w.alloc (.cells #[.slice a rows.length c, .slice a' zs.length c'] 56)).alloc (.cells #[.slice none 0 0, .slice none 0 0] 56)).frozen? ⟨w.heap.size + 1, 0, none⟩ = false := fro_new _ _ _ (by simp)
  have z1 : ((w.alloc (.cells #[.slice a rows.length c, .slice a' zs.length c'] 56)).alloc (.cells #[.slice none 0 0, .slice none 0 0] 56)).frozen? ⟨w.heap.size + 1, 1, none⟩ = false := fro_new _ _ _ (by simp)
  have HB := Lib.hid ((below_alloc w (.cells #[.slice a rows.length c, .slice a' zs.length c'] 56)).alloc (by simp) (.cells #[.slice none 0 0, .slice none 0 0] 56))
  have s0 : w.heap.size + 2 ≤ ((w.alloc (.cells #[.slice a rows.length c, .slice a' zs.length c'] 56)).alloc (.cells #[.slice none 0 0, .slice none 0 0] 56)).heap.size := by simp
  generalize hw : ((w.alloc (.cells #[.slice a rows.length c, .slice a' zs.length c'] 56)).alloc (.cells #[.slice none 0 0, .slice none 0 0] 56)) = w0 at *
  have HW := Lib.hid hw
  clear hw
  go_enter Try.func68, Try.ntmps68
  go_wp2_with (refine wpList_make_full _ rfl _ _ 28 rfl w0.heap.size 22 i0 (.slice none 0 0) 1 Try.underlying28 hi hz0 hz1 .i64 .i64 _ _ rows.length rfl rfl rfl rfl (by rw [hz2]; omega) (by unfold maxLen; omega) (by first | exact Nat.le_refl _ | (rw [← HW.out]; exact Nat.le_refl _)) ?_; intro w1 hown1 hgrow1; refine Hid.out ?_)
  refine Lib.hid ?_
  rw [HW.out] at hgrow1
  have hb1 : Below w0.heap.size w0 w1 := (Below.refl _ _).grown hgrow1 (Nat.le_refl _) (by simp)
  rw [show (Value.slice none 0 0).cells = #[Value.slice none 0 0] from rfl, Nat.mul_one, toList_madeCells_one] at hown1
  have hgg := OwnPart.start (g := w0.heap.size) (rows := rows.map f) (by simpa [← HW.out] using hown1)
  have HX := Lib.hid (show w1.cell? ⟨w.heap.size, 0, none⟩ = some (.slice a rows.length c) ∧ w1.cell? ⟨w.heap.size, 1, none⟩ = some (.slice a' zs.length c') ∧ w1.cell? ⟨w.heap.size + 1, 0, none⟩ = some (.slice none 0 0) ∧ w1.cell? ⟨w.heap.size + 1, 1, none⟩ = some (.slice none 0 0) ∧ w1.frozen? ⟨w.heap.size + 1, 0, none⟩ = false ∧ w1.frozen? ⟨w.heap.size + 1, 1, none⟩ = false from ⟨cell_below hb1 x0 (by omega), cell_below hb1 x1 (by omega), cell_below hb1 y0 (by omega), cell_below hb1 y1 (by omega), fro_below hb1 z0 (by omega), fro_below hb1 z1 (by omega)⟩)
  obtain ⟨x0', x1', y0', y1', z0', z1'⟩ := HX.out
  have EW := Lib.hid (show w.heap.size + 1 + 1 = w0.heap.size from by rw [← HW.out]; simp)
  have HG := Lib.hid (show OwnPart w0.heap.size w0.heap.size w1 (rows.map f) 0 from by have := hgg; rw [EW.out] at this; exact this)
  have HB1 := Lib.hid hb1
  have hs1 := hb1.size
  clear x0 x1 y0 y1 z0 z1 hgrow1 hgg hown1 hb1
  go_wp2_with fail
  rw [EW.out]
  go_loopw [15] (fun i wr => ∃ k : Nat, k ≤ rows.length ∧ i = .int .i64 k ∧ OwnPart w0.heap.size w0.heap.size wr (rows.map f) k ∧ Below w0.heap.size w0 wr ∧ Hid (wr.cell? ⟨w.heap.size, 1, none⟩ = some (.slice a' zs.length c') ∧ wr.cell? ⟨w.heap.size + 1, 0, none⟩ = some (.slice none 0 0) ∧ wr.cell? ⟨w.heap.size + 1, 1, none⟩ = some (.slice none 0 0) ∧ wr.frozen? ⟨w.heap.size + 1, 0, none⟩ = false ∧ wr.frozen? ⟨w.heap.size + 1, 1, none⟩ = false)) (fun i _ => rows.length - (intOf i).toNat)
  case atStart => exact ⟨0, Nat.zero_le _, rfl, HG.out, HB1.out, Lib.hid ⟨x1', y0', y1', z0', z1'⟩⟩
  case round =>
    obtain ⟨k, hk', rfl, hown, hbel, HCe⟩ := hrel
    have HO := Lib.hid hown
    have HBl := Lib.hid hbel
    have hsz := hbel.size
    clear x0' x1' y0' y1' z0' z1' HX
    by_cases hlt : k < rows.length
    · obtain ⟨bl, off, p, q, rfl, hbl, hc, hpq, hrow⟩ := (HR.out.below HB.out).at hlt
      replace hc := cell_below hbel hc (by omega)
      have HCL := Lib.hid (HC.out k wr p q hlt (HB.out.trans (hbel.mono (by omega))) (hrow.below hbel))
      have HM := Lib.hid (map_getD f rows k hlt)
      have i1 : (0 : Int) ≤ (k : Int) := by omega
      have i2 : (k : Int) < (rows.length : Int) := by omega
      clear hown hbel hrow hpq
      generalize rows.getD k [] = r at *
      go_wp2_with fail
      refine HCL.out.mono ?_
      rintro e w2 ⟨v, rfl, hov, hb2⟩
      obtain ⟨p2, q2, hv2, _, _, _⟩ := hov.slice
      subst hv2
      obtain ⟨hcell, hfro, hst⟩ := HO.out.store (by simpa using hlt) hb2 (by rw [HM.out]; exact hov)
      have HST := Lib.hid hst
      have HB2 := Lib.hid (HBl.out.trans (hb2.mono hsz))
      have HCe2 : Hid (w2.cell? ⟨w.heap.size, 1, none⟩ = some (.slice a' zs.length c') ∧ w2.cell? ⟨w.heap.size + 1, 0, none⟩ = some (.slice none 0 0) ∧ w2.cell? ⟨w.heap.size + 1, 1, none⟩ = some (.slice none 0 0) ∧ w2.frozen? ⟨w.heap.size + 1, 0, none⟩ = false ∧ w2.frozen? ⟨w.heap.size + 1, 1, none⟩ = false) := Lib.hid ⟨cell_below hb2 HCe.out.1 (by omega), cell_below hb2 HCe.out.2.1 (by omega), cell_below hb2 HCe.out.2.2.1 (by omega), fro_below hb2 HCe.out.2.2.2.1 (by omega), fro_below hb2 HCe.out.2.2.2.2 (by omega)⟩
      have hs2 := hb2.size
      clear hst hb2 hov
      go_wp2_with fail
      go_roundw
      case rel => exact ⟨k + 1, by omega, by go_num, HST.out, HB2.out.setCell (Nat.le_refl _) _, Lib.hid ⟨cell_set HCe2.out.1 (by simp; omega) _, cell_set HCe2.out.2.1 (by simp; omega) _, cell_set HCe2.out.2.2.1 (by simp; omega) _, fro_set HCe2.out.2.2.2.1 (by simp; omega) _, fro_set HCe2.out.2.2.2.2 (by simp; omega) _⟩⟩
      case measure => simp [intOf]; omega
    · obtain rfl : k = rows.length := by omega
      obtain ⟨x1, y0, y1, z0, z1⟩ := HCe.out
      have HG2 := Lib.hid (show OwnG w0.heap.size wr.heap.size wr (.slice (some ⟨w0.heap.size, 0, none⟩) rows.length rows.length) (rows.map f) from by
        have hown' : OwnPart w0.heap.size w0.heap.size wr (rows.map f) (rows.map f).length := by rw [List.length_map]; exact hown
        have := hown'.done
        rw [List.length_map] at this
        exact this)
      have HCl := Lib.hid (clone_any a' zs c' wr (HZ.out.below (HB.out.trans (hbel.mono (by omega)))) hk)
      clear hown hbel
      go_wp2_with fail
      refine HCl.out.mono ?_
      rintro e w2 ⟨v, rfl, ho2, hb2⟩
      obtain ⟨p2, q2, hv2, _, _, _⟩ := ho2.slice
      subst hv2
      replace y0 := cell_below hb2 y0 (by omega)
      replace y1 := cell_below hb2 y1 (by omega)
      replace z0 := fro_below hb2 z0 (by omega)
      replace z1 := fro_below hb2 z1 (by omega)
      have HS := Lib.hid (OwnS.of (lo := w0.heap.size) (hi := w2.heap.size) (HG2.out.below hb2) ho2 (.inl (Nat.le_refl _)) (Nat.le_refl _) hsz hb2.size (Nat.le_refl _))
      have HB2 := Lib.hid (HB.out.trans ((HBl.out.trans (hb2.mono hsz)).mono (by omega)))
      clear ho2 hb2 x1
      go_wp2_with fail
      refine bodyPost_ret (v := .agg #[.slice (some ⟨w0.heap.size, 0, none⟩) rows.length rows.length, .slice p2 zs.length q2]) (by simp [results, Try.results68, go_sem, y0, y1]) rfl ⟨_, _, rfl, ?_, ?_⟩
      · simp only [size_set]; exact ((HS.out.set (by simp; omega) _).set (by simp; omega) _).mono (by omega) (Nat.le_refl _)
      · exact (HB2.out.setCell (by simp) _).setCell (by simp) _
end Go.Proofs.Ytoephhhofkmgjab.changed
