/- The walk of the program's SidesSample. -/
import Derived.Test.YtoephhhofkmgjaaChanged
import Derived.Test.YtoephhhofkmgjaaJuryI9
import Derived.Deep.RegionHeld3
import Derived.Deep.DrawnRows
import Derived.BigQuiet
namespace Go.Proofs.Ytoephhhofkmgjaa.sidesc
open Go.RowKit own pp nums pwh samplesv samplest planes dots both sides sidesof ones jurs suitj idxj dec mk juri rowscopy changed samplefns
set_option linter.unusedVariables false
set_option linter.unusedSimpArgs false

set_option maxRecDepth 100000 in
set_option maxHeartbeats 1600000 in
theorem impl_sides (f : List Int → List Int) (u1 : Value) (a : Option Addr) (rows : List (List Int)) (c : Nat) (a' : Option Addr) (zs : List Int) (c' : Nat) (w : World) (hr : grid.Reads w a rows) (hz : ints.Reads .i64 w a' zs) (hn : rows.length ≤ 1048576) (hk : zs.length ≤ 1048576)
    (HC : Hid (∀ (k : Nat) (W : World) (p : Option Addr) (q : Nat), k < rows.length → Below w.heap.size w W → ints.Reads .i64 W p (rows.getD k []) → Calls Try.prog 101 #[u1, .slice p (rows.getD k []).length q] W (intfns.Made (f (rows.getD k [])) W))) :
    Calls Try.prog 100 #[.agg #[.slice a rows.length c, .slice a' zs.length c'], .func (.func 101) #[u1] #[]] w (MadeS (rows.map f) zs w) := by
  obtain ⟨i0, hi, hz0, hz1, hz2⟩ := info_parts infoInts
  have HR := Lib.hid hr
  have HZ := Lib.hid hz
  clear hr hz
  have x0 : ((w.alloc (.cells #[.slice a rows.length c, .slice a' zs.length c'] 59)).alloc (.cells #[.slice none 0 0, .slice none 0 0] 59)).cell? ⟨w.heap.size, 0, none⟩ = some (.slice a rows.length c) := cell_old _ (cell_new _ _ _ rfl rfl)
  have x1 : ((w.alloc (.cells #[.slice a rows.length c, .slice a' zs.length c'] 59)).alloc (.cells #[.slice none 0 0, .slice none 0 0] 59)).cell? ⟨w.heap.size, 1, none⟩ = some (.slice a' zs.length c') := cell_old _ (cell_new _ _ _ rfl rfl)
  have y0 : ((w.alloc (.cells #[.slice a rows.length c, .slice a' zs.length c'] 59)).alloc (.cells #[.slice none 0 0, .slice none 0 0] 59)).cell? ⟨w.heap.size + 1, 0, none⟩ = some (.slice none 0 0) := cell_new _ _ _ (by simp) rfl
  have y1 : ((w.alloc (.cells #[.slice a rows.length c, .slice a' zs.length c'] 59)).alloc (.cells #[.slice none 0 0, .slice none 0 0] 59)).cell? ⟨w.heap.size + 1, 1, none⟩ = some (.slice none 0 0) := cell_new _ _ _ (by simp) rfl
  have z0 : ((w.alloc (.cells #[.slice a rows.length c, .slice a' zs.length c'] 59)).alloc (.cells #[.slice none 0 0, .slice none 0 0] 59)).frozen? ⟨w.heap.size + 1, 0, none⟩ = false := fro_new _ _ _ (by simp)
  have z1 : ((w.alloc (.cells #[.slice a rows.length c, .slice a' zs.length c'] 59)).alloc (.cells #[.slice none 0 0, .slice none 0 0] 59)).frozen? ⟨w.heap.size + 1, 1, none⟩ = false := fro_new _ _ _ (by simp)
  have HB := Lib.hid ((below_alloc w (.cells #[.slice a rows.length c, .slice a' zs.length c'] 59)).alloc (by simp) (.cells #[.slice none 0 0, .slice none 0 0] 59))
  have s0 : w.heap.size + 2 ≤ ((w.alloc (.cells #[.slice a rows.length c, .slice a' zs.length c'] 59)).alloc (.cells #[.slice none 0 0, .slice none 0 0] 59)).heap.size := by simp
  generalize hw : ((w.alloc (.cells #[.slice a rows.length c, .slice a' zs.length c'] 59)).alloc (.cells #[.slice none 0 0, .slice none 0 0] 59)) = w0 at *
  have HW := Lib.hid hw
  clear hw
  go_enter Try.func100, Try.ntmps100
  go_wp2_with (refine wpList_make_full _ rfl _ _ 41 rfl w0.heap.size 33 i0 (.slice none 0 0) 1 Try.underlying41 hi hz0 hz1 .i64 .i64 _ _ rows.length rfl rfl rfl rfl (by rw [hz2]; omega) (by unfold maxLen; omega) (by first | exact Nat.le_refl _ | (rw [← HW.out]; exact Nat.le_refl _)) ?_; intro w1 hown1 hgrow1; refine Hid.out ?_)
  refine Lib.hid ?_
  rw [HW.out] at hgrow1
  have hb1 : Below w0.heap.size w0 w1 := (Below.refl _ _).grown hgrow1 (Nat.le_refl _) (by simp)
  rw [show (Value.slice none 0 0).cells = #[Value.slice none 0 0] from rfl, Nat.mul_one, toList_madeCells_one] at hown1
  have hgg := OwnPart.start (g := w0.heap.size) (rows := rows.map f) (by simpa [← HW.out] using hown1)
  have HX := Lib.hid (show w1.cell? ⟨w.heap.size, 0, none⟩ = some (.slice a rows.length c) ∧ w1.cell? ⟨w.heap.size, 1, none⟩ = some (.slice a' zs.length c') ∧ w1.cell? ⟨w.heap.size + 1, 0, none⟩ = some (.slice none 0 0) ∧ w1.cell? ⟨w.heap.size + 1, 1, none⟩ = some (.slice none 0 0) ∧ w1.frozen? ⟨w.heap.size + 1, 0, none⟩ = false ∧ w1.frozen? ⟨w.heap.size + 1, 1, none⟩ = false from ⟨cell_below hb1 x0 (by omega), cell_below hb1 x1 (by omega), cell_below hb1 y0 (by omega), cell_below hb1 y1 (by omega), fro_below hb1 z0 (by omega), fro_below hb1 z1 (by omega)⟩)
  obtain ⟨x0', x1', y0', y1', z0', z1'⟩ := HX.out
  have EW := Lib.hid (show w.heap.size + 1 + 1 = w0.heap.size from by rw [← HW.out]; simp)
  have HG := Lib.hid (show OwnPart w0.heap.size w0.heap.size w1 (rows.map f) 0 from by have := hgg; rw [EW.out] at this; exact this)
  have HB1 := Lib.hid hb1
  have hs1 := hb1.size
  clear x0 x1 y0 y1 z0 z1 hgrow1 hgg hown1 hb1
  go_wp2_with fail
  rw [EW.out]
  go_loopw [15] (fun i wr => ∃ k : Nat, k ≤ rows.length ∧ i = .int .i64 k ∧ OwnPart w0.heap.size w0.heap.size wr (rows.map f) k ∧ Below w0.heap.size w0 wr ∧ Hid (wr.cell? ⟨w.heap.size, 1, none⟩ = some (.slice a' zs.length c') ∧ wr.cell? ⟨w.heap.size + 1, 0, none⟩ = some (.slice none 0 0) ∧ wr.cell? ⟨w.heap.size + 1, 1, none⟩ = some (.slice none 0 0) ∧ wr.frozen? ⟨w.heap.size + 1, 0, none⟩ = false ∧ wr.frozen? ⟨w.heap.size + 1, 1, none⟩ = false)) (fun i _ => rows.length - (intOf i).toNat)
  case atStart => exact ⟨0, Nat.zero_le _, rfl, HG.out, HB1.out, Lib.hid ⟨x1', y0', y1', z0', z1'⟩⟩
  case round =>
    obtain ⟨k, hk', rfl, hown, hbel, HCe⟩ := hrel
    have HO := Lib.hid hown
    have HBl := Lib.hid hbel
    have hsz := hbel.size
    clear x0' x1' y0' y1' z0' z1' HX
    by_cases hlt : k < rows.length
    · obtain ⟨bl, off, p, q, rfl, hbl, hc, hpq, hrow⟩ := (HR.out.below HB.out).at hlt
      replace hc := cell_below hbel hc (by omega)
      have HCL := Lib.hid (HC.out k wr p q hlt (HB.out.trans (hbel.mono (by omega))) (hrow.below hbel))
      have HM := Lib.hid (map_getD f rows k hlt)
      have i1 : (0 : Int) ≤ (k : Int) := by omega
      have i2 : (k : Int) < (rows.length : Int) := by omega
      clear hown hbel hrow hpq
      generalize rows.getD k [] = r at *
      go_wp2_with fail
      refine HCL.out.mono ?_
      rintro e w2 ⟨v, rfl, hov, hb2⟩
      obtain ⟨p2, q2, hv2, _, _, _⟩ := hov.slice
      subst hv2
      obtain ⟨hcell, hfro, hst⟩ := HO.out.store (by simpa using hlt) hb2 (by rw [HM.out]; exact hov)
      have HST := Lib.hid hst
      have HB2 := Lib.hid (HBl.out.trans (hb2.mono hsz))
      have HCe2 : Hid (w2.cell? ⟨w.heap.size, 1, none⟩ = some (.slice a' zs.length c') ∧ w2.cell? ⟨w.heap.size + 1, 0, none⟩ = some (.slice none 0 0) ∧ w2.cell? ⟨w.heap.size + 1, 1, none⟩ = some (.slice none 0 0) ∧ w2.frozen? ⟨w.heap.size + 1, 0, none⟩ = false ∧ w2.frozen? ⟨w.heap.size + 1, 1, none⟩ = false) := Lib.hid ⟨cell_below hb2 HCe.out.1 (by omega), cell_below hb2 HCe.out.2.1 (by omega), cell_below hb2 HCe.out.2.2.1 (by omega), fro_below hb2 HCe.out.2.2.2.1 (by omega), fro_below hb2 HCe.out.2.2.2.2 (by omega)⟩
      have hs2 := hb2.size
      clear hst hb2 hov
      go_wp2_with fail
      go_roundw
      case rel => exact ⟨k + 1, by omega, by go_num, HST.out, HB2.out.setCell (Nat.le_refl _) _, Lib.hid ⟨cell_set HCe2.out.1 (by simp; omega) _, cell_set HCe2.out.2.1 (by simp; omega) _, cell_set HCe2.out.2.2.1 (by simp; omega) _, fro_set HCe2.out.2.2.2.1 (by simp; omega) _, fro_set HCe2.out.2.2.2.2 (by simp; omega) _⟩⟩
      case measure => simp [intOf]; omega
    · obtain rfl : k = rows.length := by omega
      obtain ⟨x1, y0, y1, z0, z1⟩ := HCe.out
      have HG2 := Lib.hid (show OwnG w0.heap.size wr.heap.size wr (.slice (some ⟨w0.heap.size, 0, none⟩) rows.length rows.length) (rows.map f) from by
        have hown' : OwnPart w0.heap.size w0.heap.size wr (rows.map f) (rows.map f).length := by rw [List.length_map]; exact hown
        have := hown'.done
        rw [List.length_map] at this
        exact this)
      have HCl := Lib.hid (clone_any a' zs c' wr (HZ.out.below (HB.out.trans (hbel.mono (by omega)))) hk)
      clear hown hbel
      go_wp2_with fail
      refine HCl.out.mono ?_
      rintro e w2 ⟨v, rfl, ho2, hb2⟩
      obtain ⟨p2, q2, hv2, _, _, _⟩ := ho2.slice
      subst hv2
      replace y0 := cell_below hb2 y0 (by omega)
      replace y1 := cell_below hb2 y1 (by omega)
      replace z0 := fro_below hb2 z0 (by omega)
      replace z1 := fro_below hb2 z1 (by omega)
      have HS := Lib.hid (OwnS.of (lo := w0.heap.size) (hi := w2.heap.size) (HG2.out.below hb2) ho2 (.inl (Nat.le_refl _)) (Nat.le_refl _) hsz hb2.size (Nat.le_refl _))
      have HB2 := Lib.hid (HB.out.trans ((HBl.out.trans (hb2.mono hsz)).mono (by omega)))
      clear ho2 hb2 x1
      go_wp2_with fail
      refine bodyPost_ret (v := .agg #[.slice (some ⟨w0.heap.size, 0, none⟩) rows.length rows.length, .slice p2 zs.length q2]) (by simp [results, Try.results100, go_sem, y0, y1]) rfl ⟨_, _, rfl, ?_, ?_⟩
      · simp only [size_set]; exact ((HS.out.set (by simp; omega) _).set (by simp; omega) _).mono (by omega) (Nat.le_refl _)
      · exact (HB2.out.setCell (by simp) _).setCell (by simp) _
def sjB (rows : List (List Int)) (zs : List Int) (ps : List (List Int × Int)) : Bool := decide (ps.length ≤ 4) && majB rows zs ps
set_option maxRecDepth 100000 in
set_option maxHeartbeats 1600000 in
theorem impl_sample_no (a : Option Addr) (rows : List (List Int)) (c : Nat) (a' : Option Addr) (zs : List Int) (c' : Nat) (x : Option Addr) (ps : List (List Int × Int)) (d : Nat) (w : World) (hr : grid.Reads w a rows) (hz : ints.Reads .i64 w a' zs) (hx : ReadsJ w x ps) (hn : rows.length ≤ 1048576) (hk : zs.length ≤ 1048576) (hm : ∀ r ∈ rows, r.length ≤ 1048576) (hlen : ps.length ≤ 1048576) (hw : ∀ k, k < ps.length → (ps.getD k ([], 0)).1.length ≤ 1048576) (h : sjB rows zs ps = false) :
    Calls Try.prog 54 #[.agg #[.slice a rows.length c, .slice a' zs.length c'], .slice x ps.length d] w (RetSB [] [] false w) := by
  by_cases h4 : ps.length ≤ 4
  · have hmj : majB rows zs ps = false := by unfold sjB at h; simpa [h4] using h
    have g : decide (4 < (ps.length : Int)) = false := decide_eq_false (by omega)
    have HX := Lib.hid (show ∀ wa : World, Below w.heap.size w wa → Calls Try.prog 99 #[.slice x ps.length d, .agg #[.slice a rows.length c, .slice a' zs.length c']] wa (RetB false wa) from fun wa hB => by
      have e := impl_maj a rows c a' zs c' x ps d wa (hr.below hB) (hz.below hB) (hx.below hB) hn hk hm hlen hw
      rw [hmj] at e
      exact e)
    have Hhr := Lib.hid hr
    have Hhz := Lib.hid hz
    clear hr hz
    clear h hx hm hw hmj
    go_enter Try.func54, Try.ntmps54
    obtain ⟨wb1, hw1⟩ : ∃ wb1 : World, wb1 = w.alloc (.cells #[.slice a rows.length c, .slice a' zs.length c'] 59) := ⟨_, rfl⟩
    obtain ⟨wb2, hw2⟩ : ∃ wb2 : World, wb2 = wb1.alloc (.cells #[.slice none 0 0, .slice none 0 0] 59) := ⟨_, rfl⟩
    have z1 : wb1.heap.size = w.heap.size + 1 := by rw [hw1]; simp
    have z2 : wb2.heap.size = w.heap.size + 2 := by rw [hw2]; simp; omega
    have x0_0 := (by rw [hw2]; exact cell_old _ (by rw [hw1]; exact cell_new _ _ _ rfl rfl : wb1.cell? ⟨w.heap.size, 0, none⟩ = some (.slice a rows.length c)) : wb2.cell? ⟨w.heap.size, 0, none⟩ = some (.slice a rows.length c))
    have x0_1 := (by rw [hw2]; exact cell_old _ (by rw [hw1]; exact cell_new _ _ _ rfl rfl : wb1.cell? ⟨w.heap.size, 1, none⟩ = some (.slice a' zs.length c')) : wb2.cell? ⟨w.heap.size, 1, none⟩ = some (.slice a' zs.length c'))
    have x1_0 := (by rw [hw2]; exact cell_new _ _ _ z1.symm rfl : wb2.cell? ⟨w.heap.size + 1, 0, none⟩ = some (.slice none 0 0))
    have x1_1 := (by rw [hw2]; exact cell_new _ _ _ z1.symm rfl : wb2.cell? ⟨w.heap.size + 1, 1, none⟩ = some (.slice none 0 0))
    have HB0 := Lib.hid (show Below w.heap.size w wb2 by rw [hw2]; exact (show Below w.heap.size w wb1 by rw [hw1]; exact (Below.refl w.heap.size w).alloc (Nat.le_refl _) _).alloc (by omega) _)
    have s2 : w.heap.size + 2 ≤ wb2.heap.size := by omega
    have f1_0 := (by rw [hw2]; exact fro_new _ _ _ z1.symm : wb2.frozen? ⟨w.heap.size + 1, 0, none⟩ = false)
    have f1_1 := (by rw [hw2]; exact fro_new _ _ _ z1.symm : wb2.frozen? ⟨w.heap.size + 1, 1, none⟩ = false)
    have HZ2 := Lib.hid z2
    clear z1 z2
    go_wp2_with fail
    rw [← hw1, ← hw2]
    clear hw1 hw2
    refine (HX.out _ HB0.out).mono ?_
    rintro e w2 ⟨rfl, hb⟩
    replace x0_0 := cell_below hb x0_0 (by omega)
    replace x0_1 := cell_below hb x0_1 (by omega)
    replace x1_0 := cell_below hb x1_0 (by omega)
    replace x1_1 := cell_below hb x1_1 (by omega)
    replace f1_0 := fro_below hb f1_0 (by omega)
    replace f1_1 := fro_below hb f1_1 (by omega)
    have s2 := hb.size
    have HB2 := Lib.hid (HB0.out.trans (hb.mono (by omega)))
    clear hb
    have t2 : ((w2.setCell ⟨w.heap.size + 1, 0, none⟩ (.slice none 0 0)).setCell ⟨w.heap.size + 1, 1, none⟩ (.slice none 0 0)).cell? ⟨w.heap.size + 1, 0, none⟩ = some (.slice none 0 0) := (World.cell?_setCell_other _ _ _ _ (by simp)).trans (World.cell?_setCell_same _ _ _ x1_0)
    have t3 : ((w2.setCell ⟨w.heap.size + 1, 0, none⟩ (.slice none 0 0)).setCell ⟨w.heap.size + 1, 1, none⟩ (.slice none 0 0)).cell? ⟨w.heap.size + 1, 1, none⟩ = some (.slice none 0 0) := World.cell?_setCell_same _ _ _ ((World.cell?_setCell_other _ _ _ _ (by simp)).trans x1_1)
    go_wp2_with fail
    refine bodyPost_ret (v := .tuple #[.agg #[.slice none 0 0, .slice none 0 0], .bool false]) (by simp [results, Try.results54, go_sem, t2, t3]) rfl ⟨_, _, rfl, ?_, ?_⟩
    · exact OwnS.of (OwnG.nil w.heap.size 0 _) (OwnI.nil w.heap.size 0 _) (.inl (Nat.zero_le _)) (Nat.le_refl _) (Nat.le_refl _) (Nat.zero_le _) (Nat.zero_le _)
    · exact (HB2.out.setCell (by simp) _).setCell (by simp) _
  · have g : decide (4 < (ps.length : Int)) = true := decide_eq_true (by omega)
    have Hhr := Lib.hid hr
    have Hhz := Lib.hid hz
    clear hr hz
    clear h hx hm hw
    go_enter Try.func54, Try.ntmps54
    obtain ⟨wb1, hw1⟩ : ∃ wb1 : World, wb1 = w.alloc (.cells #[.slice a rows.length c, .slice a' zs.length c'] 59) := ⟨_, rfl⟩
    obtain ⟨wb2, hw2⟩ : ∃ wb2 : World, wb2 = wb1.alloc (.cells #[.slice none 0 0, .slice none 0 0] 59) := ⟨_, rfl⟩
    have z1 : wb1.heap.size = w.heap.size + 1 := by rw [hw1]; simp
    have z2 : wb2.heap.size = w.heap.size + 2 := by rw [hw2]; simp; omega
    have x0_0 := (by rw [hw2]; exact cell_old _ (by rw [hw1]; exact cell_new _ _ _ rfl rfl : wb1.cell? ⟨w.heap.size, 0, none⟩ = some (.slice a rows.length c)) : wb2.cell? ⟨w.heap.size, 0, none⟩ = some (.slice a rows.length c))
    have x0_1 := (by rw [hw2]; exact cell_old _ (by rw [hw1]; exact cell_new _ _ _ rfl rfl : wb1.cell? ⟨w.heap.size, 1, none⟩ = some (.slice a' zs.length c')) : wb2.cell? ⟨w.heap.size, 1, none⟩ = some (.slice a' zs.length c'))
    have x1_0 := (by rw [hw2]; exact cell_new _ _ _ z1.symm rfl : wb2.cell? ⟨w.heap.size + 1, 0, none⟩ = some (.slice none 0 0))
    have x1_1 := (by rw [hw2]; exact cell_new _ _ _ z1.symm rfl : wb2.cell? ⟨w.heap.size + 1, 1, none⟩ = some (.slice none 0 0))
    have HB0 := Lib.hid (show Below w.heap.size w wb2 by rw [hw2]; exact (show Below w.heap.size w wb1 by rw [hw1]; exact (Below.refl w.heap.size w).alloc (Nat.le_refl _) _).alloc (by omega) _)
    have s2 : w.heap.size + 2 ≤ wb2.heap.size := by omega
    have f1_0 := (by rw [hw2]; exact fro_new _ _ _ z1.symm : wb2.frozen? ⟨w.heap.size + 1, 0, none⟩ = false)
    have f1_1 := (by rw [hw2]; exact fro_new _ _ _ z1.symm : wb2.frozen? ⟨w.heap.size + 1, 1, none⟩ = false)
    have HZ2 := Lib.hid z2
    clear z1 z2
    go_wp2_with fail
    rw [← hw1, ← hw2]
    clear hw1 hw2
    refine bodyPost_ret (v := .tuple #[.agg #[.slice none 0 0, .slice none 0 0], .bool false]) (by simp [results, Try.results54, go_sem, x1_0, x1_1]) rfl ⟨_, _, rfl, ?_, ?_⟩
    · exact OwnS.of (OwnG.nil w.heap.size 0 _) (OwnI.nil w.heap.size 0 _) (.inl (Nat.zero_le _)) (Nat.le_refl _) (Nat.le_refl _) (Nat.zero_le _) (Nat.zero_le _)
    · exact HB0.out
set_option maxRecDepth 100000 in
set_option maxHeartbeats 1600000 in
theorem impl_sample_yes (a : Option Addr) (rows : List (List Int)) (c : Nat) (a' : Option Addr) (zs : List Int) (c' : Nat) (x : Option Addr) (ps : List (List Int × Int)) (d : Nat) (w : World) (hr : grid.Reads w a rows) (hz : ints.Reads .i64 w a' zs) (hx : ReadsJ w x ps) (hn : rows.length ≤ 1048576) (hk : zs.length ≤ 1048576) (hm : ∀ r ∈ rows, r.length ≤ 1048576) (hlen : ps.length ≤ 1048576) (hw : ∀ k, k < ps.length → (ps.getD k ([], 0)).1.length ≤ 1048576) (h : sjB rows zs ps = true) :
    Calls Try.prog 54 #[.agg #[.slice a rows.length c, .slice a' zs.length c'], .slice x ps.length d] w (RetSB (rows.map (sidesL ps)) zs true w) := by
  have h4 : ps.length ≤ 4 := by unfold sjB at h; simp at h; exact h.1
  have hmj : majB rows zs ps = true := by unfold sjB at h; simp at h; exact h.2
  have g : decide (4 < (ps.length : Int)) = false := decide_eq_false (by omega)
  have HX := Lib.hid (show ∀ wa : World, Below w.heap.size w wa → Calls Try.prog 99 #[.slice x ps.length d, .agg #[.slice a rows.length c, .slice a' zs.length c']] wa (RetB true wa) from fun wa hB => by
    have e := impl_maj a rows c a' zs c' x ps d wa (hr.below hB) (hz.below hB) (hx.below hB) hn hk hm hlen hw
    rw [hmj] at e
    exact e)
  have HCH := Lib.hid (fun (wa : World) (hB : Below w.heap.size w wa) => impl_sides (sidesL ps) (.slice x ps.length d) a rows c a' zs c' wa (hr.below hB) (hz.below hB) hn hk (Lib.hid (fun k W p q hk9 hB9 hrd => by
    obtain ⟨f1, f2, f3⟩ := fit_of_both hmj k hk9
    exact juri.impl_sides x ps d p _ q W ((hx.below hB).below hB9) hrd f1 f2 f3)))
  have Hhr := Lib.hid hr
  have Hhz := Lib.hid hz
  clear hr hz
  clear h hx hm hw hmj
  go_enter Try.func54, Try.ntmps54
  obtain ⟨wb1, hw1⟩ : ∃ wb1 : World, wb1 = w.alloc (.cells #[.slice a rows.length c, .slice a' zs.length c'] 59) := ⟨_, rfl⟩
  obtain ⟨wb2, hw2⟩ : ∃ wb2 : World, wb2 = wb1.alloc (.cells #[.slice none 0 0, .slice none 0 0] 59) := ⟨_, rfl⟩
  have z1 : wb1.heap.size = w.heap.size + 1 := by rw [hw1]; simp
  have z2 : wb2.heap.size = w.heap.size + 2 := by rw [hw2]; simp; omega
  have x0_0 := (by rw [hw2]; exact cell_old _ (by rw [hw1]; exact cell_new _ _ _ rfl rfl : wb1.cell? ⟨w.heap.size, 0, none⟩ = some (.slice a rows.length c)) : wb2.cell? ⟨w.heap.size, 0, none⟩ = some (.slice a rows.length c))
  have x0_1 := (by rw [hw2]; exact cell_old _ (by rw [hw1]; exact cell_new _ _ _ rfl rfl : wb1.cell? ⟨w.heap.size, 1, none⟩ = some (.slice a' zs.length c')) : wb2.cell? ⟨w.heap.size, 1, none⟩ = some (.slice a' zs.length c'))
  have x1_0 := (by rw [hw2]; exact cell_new _ _ _ z1.symm rfl : wb2.cell? ⟨w.heap.size + 1, 0, none⟩ = some (.slice none 0 0))
  have x1_1 := (by rw [hw2]; exact cell_new _ _ _ z1.symm rfl : wb2.cell? ⟨w.heap.size + 1, 1, none⟩ = some (.slice none 0 0))
  have HB0 := Lib.hid (show Below w.heap.size w wb2 by rw [hw2]; exact (show Below w.heap.size w wb1 by rw [hw1]; exact (Below.refl w.heap.size w).alloc (Nat.le_refl _) _).alloc (by omega) _)
  have s2 : w.heap.size + 2 ≤ wb2.heap.size := by omega
  have f1_0 := (by rw [hw2]; exact fro_new _ _ _ z1.symm : wb2.frozen? ⟨w.heap.size + 1, 0, none⟩ = false)
  have f1_1 := (by rw [hw2]; exact fro_new _ _ _ z1.symm : wb2.frozen? ⟨w.heap.size + 1, 1, none⟩ = false)
  have HZ2 := Lib.hid z2
  clear z1 z2
  go_wp2_with fail
  rw [← hw1, ← hw2]
  clear hw1 hw2
  refine (HX.out _ HB0.out).mono ?_
  rintro e w2 ⟨rfl, hb⟩
  replace x0_0 := cell_below hb x0_0 (by omega)
  replace x0_1 := cell_below hb x0_1 (by omega)
  replace x1_0 := cell_below hb x1_0 (by omega)
  replace x1_1 := cell_below hb x1_1 (by omega)
  replace f1_0 := fro_below hb f1_0 (by omega)
  replace f1_1 := fro_below hb f1_1 (by omega)
  have s2 := hb.size
  have HB2 := Lib.hid (HB0.out.trans (hb.mono (by omega)))
  clear hb
  go_wp2_with fail
  refine (HCH.out _ HB2.out).mono ?_
  rintro e w3 ⟨pv, lv, rfl, ho, hb⟩
  obtain ⟨p1, q1, rfl, _, _, _⟩ := ho.grid.slice
  obtain ⟨p2, q2, rfl, _, _, _⟩ := ho.ints.slice
  rw [List.length_map] at ho ⊢
  replace x1_0 := cell_below hb x1_0 (by omega)
  replace x1_1 := cell_below hb x1_1 (by omega)
  replace f1_0 := fro_below hb f1_0 (by omega)
  replace f1_1 := fro_below hb f1_1 (by omega)
  have s3 := hb.size
  have HB3 := Lib.hid (HB2.out.trans (hb.mono (by omega)))
  have HOS := Lib.hid ho
  clear hb ho x0_0 x0_1
  have t2 : ((w3.setCell ⟨w.heap.size + 1, 0, none⟩ (.slice p1 rows.length q1)).setCell ⟨w.heap.size + 1, 1, none⟩ (.slice p2 zs.length q2)).cell? ⟨w.heap.size + 1, 0, none⟩ = some (.slice p1 rows.length q1) := (World.cell?_setCell_other _ _ _ _ (by simp)).trans (World.cell?_setCell_same _ _ _ x1_0)
  have t3 : ((w3.setCell ⟨w.heap.size + 1, 0, none⟩ (.slice p1 rows.length q1)).setCell ⟨w.heap.size + 1, 1, none⟩ (.slice p2 zs.length q2)).cell? ⟨w.heap.size + 1, 1, none⟩ = some (.slice p2 zs.length q2) := World.cell?_setCell_same _ _ _ ((World.cell?_setCell_other _ _ _ _ (by simp)).trans x1_1)
  go_wp2_with fail
  refine bodyPost_ret (v := .tuple #[.agg #[.slice p1 rows.length q1, .slice p2 zs.length q2], .bool true]) (by simp [results, Try.results54, go_sem, t2, t3]) rfl ⟨_, _, rfl, ?_, ?_⟩
  · simp only [size_set]; exact ((HOS.out.set (by simp; omega) _).set (by simp; omega) _).mono (by omega) (Nat.le_refl _)
  · exact (HB3.out.setCell (by simp) _).setCell (by simp) _
end Go.Proofs.Ytoephhhofkmgjaa.sidesc
