/- Several texts in one. -/
import Derived.OwnWalk
import Derived.RangeFuncBox
import Derived.BigQuiet
import Derived.Test.YtoephhhofkmgjabSpG7
import Derived.Test.YtoephhhofkmgjabSpG15
import Derived.Test.YtoephhhofkmgjabSpG6
import Derived.Test.YtoephhhofkmgjabSpG9
import Derived.Test.YtoephhhofkmgjabShelf
import Derived.Test.YtoephhhofkmgjabSpG4
namespace Go.Proofs.Ytoephhhofkmgjab.rowscopy
open Go.RowKit own
set_option linter.unusedVariables false
set_option linter.unusedSimpArgs false

theorem infoInts : (Try.prog.info? 22).map (fun i => (i.zero, i.size, i.bytes)) = some (some (.slice none 0 0), 1, 24) := by kernel_rfl
theorem ownG_empty (w : World) : w.heap.size ≤ w.heap.size ∧ (w.alloc (.cells #[] 22)).ownsRow w.heap.size 22 1 (.slice (some ⟨w.heap.size, 0, none⟩) 0 0) 0 [] :=
  ⟨Nat.le_refl _, World.ownsRow_made (base := w.heap.size) (e := 22) (size := 1) w #[] 0 (Nat.le_refl _) (by unfold maxLen; omega) rfl⟩

/-- One more row behind an append. -/
theorem push {lo hi k : Nat} {w2 w3 : World} {v c : Value} {cs : List Value} {rows : List (List Int)} {O : Obj} (ho : w2.ownsRow lo 22 1 v k cs) (hr : RowsOf lo hi w2 cs (rows.take k)) (hc : OwnI hi w2.heap.size w2 c (rows.getD k [])) (h1 : lo ≤ hi) (h2 : hi ≤ w2.heap.size) (hk : k < rows.length)
    (hg : (w2.alloc O).grownBy w3 v.ownBlock) : RowsOf lo w3.heap.size w3 (cs ++ [c]) (rows.take (k + 1)) := by
  have h := hr.snoc hc h1 h2
  rw [← take_snoc_getD rows k hk] at h
  have hs : w2.heap.size ≤ w3.heap.size := Nat.le_trans (by simp) hg.size
  refine (h.keep fun g hl hh hgs hbl => ?_).mono (Nat.le_refl _) hs
  rw [hg.block g (by simp; omega) (fun e => ?_), Below.heap_alloc w2 O g hgs]
  obtain ⟨i, hi', hb⟩ := hbl
  exact ownsRow_ne (h.2.1 i hi').1 ho (by decide) hb e.symm

set_option maxRecDepth 100000 in
set_option maxHeartbeats 2000000 in
theorem spec_copy (a : Option Addr) (rows : List (List Int)) (c : Nat) (w : World) (hr : grid.Reads w a rows) (hn : (rows.length : Int) + (grid.tot rows : Int) ≤ 1048576) (hp : ∀ k, k < rows.length → 0 < (rows.getD k []).length) :
    Calls Try.prog 61 #[.slice a rows.length c] w (MadeG rows w) := by
  obtain ⟨i0, hi, hz0, hz1, hz2⟩ := info_parts infoInts
  have HR := Lib.hid hr
  have HP := Lib.hid hp
  clear hr hp
  go_enter Try.func61, Try.ntmps61
  go_wp2_with fail
  have hown0 := (ownG_empty w).2
  have hb0 := below_alloc w (.cells #[] 22)
  go_loopw [3, 4] (fun v i wr => ∃ (k : Nat) (cs : List Value), k ≤ rows.length ∧ i = .int .i64 k ∧ wr.ownsRow w.heap.size 22 1 v k cs ∧ RowsOf w.heap.size wr.heap.size wr cs (rows.take k) ∧ Below w.heap.size w wr) (fun _ i _ => rows.length - (intOf i).toNat)
  case atStart => exact ⟨0, [], Nat.zero_le _, rfl, hown0, by simpa using RowsOf.nil _ _ _, hb0⟩
  case round =>
    obtain ⟨k, cs, hk, rfl, hown, hrows, hbel⟩ := hrel
    have HV := Lib.hid hown.lt
    have HO := Lib.hid hown
    have HRW := Lib.hid hrows
    have HBl := Lib.hid hbel
    have hsz := hbel.size
    clear hown0 hb0
    by_cases hlt : k < rows.length
    · obtain ⟨bl, off, p, q, rfl, hbl, hc, hpq, hrow⟩ := (HR.out.below hbel).at hlt
      have hle := grid.getD_le_tot rows k
      have hpos := HP.out k hlt
      have HRr := Lib.hid hrow
      have HE := Lib.hid (show rows.getD k [] = rows.getD k [] from rfl)
      obtain ⟨r, hrr⟩ : ∃ r, rows.getD k [] = r := ⟨_, rfl⟩
      rw [hrr] at hc hpq hle hpos HRr
      have HQ := Lib.hid hrr
      clear hown hrows hbel hrow hrr HE
      go_wp2_with fail
      refine (own1.spec_own p r q wr HRr.out (by omega) hpos).mono ?_
      rintro e w2 ⟨v2, rfl, ho2, hb2⟩
      obtain ⟨p2, q2, hv2, _, _, _⟩ := ho2.slice
      subst hv2
      have hog : w2.ownsRow w.heap.size 22 1 u3 k cs := ownsRow_block HO.out fun g hg => hb2.block g (HO.out.lt g hg).2
      have hrg : RowsOf w.heap.size wr.heap.size w2 cs (rows.take k) := HRW.out.below hb2
      have HOG := Lib.hid hog
      have HRG := Lib.hid hrg
      have HO2 := Lib.hid ho2
      have HB2 := Lib.hid (HBl.out.trans (hb2.mono hsz))
      have hs2 := hb2.size
      clear hrg ho2 hb2
      go_wp2_with (at_builtin; refine wpList_append_own _ rfl _ _ 28 rfl w.heap.size 22 i0 (.slice none 0 0) 1 24 Try.underlying28 hi hz0 hz1 hz2 rfl (by decide) _ _ _ rfl (hog.alloc _) ⟨w2.heap.size, 0, none⟩ 1 1 [.slice p2 r.length q2] rfl rfl (cell_one_new _ _ _) (by simp [Value.oneCell']) (by unfold maxLen; omega) (by omega) (by simp; omega) ?_; intro v' w3 hown' hgrow _)
      obtain ⟨g', cap', hv'⟩ := ownsRow_succ hown'
      subst hv'
      have HO3 := Lib.hid hown'
      have HR3 := Lib.hid (push (rows := rows) HOG.out HRG.out (by rw [HQ.out]; exact HO2.out) hsz hs2 hlt hgrow)
      have HB3 := Lib.hid ((HB2.out.alloc (by omega) _).grown hgrow (by simp; omega) (fun g e => (HV.out g e).1))
      clear hog hown' hgrow
      go_wp2_with fail
      go_roundw
      case rel => exact ⟨k + 1, cs ++ [.slice p2 r.length q2], by omega, by go_num, HO3.out, HR3.out, HB3.out⟩
      case measure => simp [intOf]; omega
    · obtain rfl : k = rows.length := by omega
      have HF := Lib.hid (show MadeG rows w (.returned u3) wr from ⟨u3, rfl, ⟨cs, hown, fun g hg => (hown.lt g hg).2, by rw [List.take_length] at hrows; exact hrows⟩, hbel⟩)
      clear hown hrows hbel
      go_wp2_with fail
      go_ret
      exact HF.out
end Go.Proofs.Ytoephhhofkmgjab.rowscopy

namespace Go.Proofs.Ytoephhhofkmgjab.changed
open Go.RowKit own rowscopy samplefns
set_option linter.unusedVariables false
set_option linter.unusedSimpArgs false

theorem map_getD (f : List Int → List Int) (rows : List (List Int)) (k : Nat) (h : k < rows.length) : (rows.map f).getD k [] = f (rows.getD k []) := by
  rw [List.getD_eq_getElem?_getD, List.getD_eq_getElem?_getD, List.getElem?_map, List.getElem?_eq_getElem h]; rfl
theorem clone_any (a : Option Addr) (zs : List Int) (c : Nat) (w : World) (hr : ints.Reads .i64 w a zs) (hn : zs.length ≤ 1048576) :
    Calls Try.prog 44 #[.slice a zs.length c] w (intfns.Made zs w) := by
  cases a with
  | none =>
    obtain rfl : zs = [] := by rcases hr with h | ⟨b, off, e, _⟩; exact h; cases e
    refine (Try.slices_Clone_int_nil _ _ _).mono ?_
    rintro e w' ⟨rfl, rfl⟩
    exact ⟨_, rfl, OwnI.nil _ _ _, Below.refl _ _⟩
  | some ad =>
    by_cases h0 : zs.length = 0
    · obtain rfl : zs = [] := List.length_eq_zero_iff.1 h0
      refine (Try.slices_Clone_int_zero _ _ _).mono ?_
      rintro e w' ⟨v, rfl, ho, _, hb⟩
      exact ⟨v, rfl, OwnI.of ho, hb⟩
    · obtain ⟨b, off, e, hb, hc⟩ := own1.reads_pos hr (by omega)
      cases e
      refine (Try.slices_Clone_int b off zs.length c zs w (Nat.le_refl _) (by omega) hc).mono ?_
      rintro e w' ⟨v, rfl, ho, _, hb⟩
      rw [List.take_length] at ho
      exact ⟨v, rfl, OwnI.of ho, hb⟩
set_option maxRecDepth 100000 in
set_option maxHeartbeats 4000000 in
theorem impl_clone (f : List Int → List Int) (a : Option Addr) (rows : List (List Int)) (c : Nat) (a' : Option Addr) (zs : List Int) (c' : Nat) (w : World) (hr : grid.Reads w a rows) (hz : ints.Reads .i64 w a' zs) (hn : rows.length ≤ 1048576) (hk : zs.length ≤ 1048576)
    (HC : Hid (∀ (k : Nat) (W : World) (p : Option Addr) (q : Nat), k < rows.length → Below w.heap.size w W → ints.Reads .i64 W p (rows.getD k []) → Calls Try.prog 44 #[.slice p (rows.getD k []).length q] W (intfns.Made (f (rows.getD k [])) W))) :
    Calls Try.prog 68 #[.agg #[.slice a rows.length c, .slice a' zs.length c'], .func (.func 44) #[] #[]] w (MadeS (rows.map f) zs w) := by
  obtain ⟨i0, hi, hz0, hz1, hz2⟩ := info_parts infoInts
  have HR := Lib.hid hr
  have HZ := Lib.hid hz
  clear hr hz
  have x0 : ((w.alloc (.cells #[.slice a rows.length c, .slice a' zs.length c'] 56)).alloc (.cells #[.slice none 0 0, .slice none 0 0] 56)).cell? ⟨w.heap.size, 0, none⟩ = some (.slice a rows.length c) := cell_old _ (cell_new _ _ _ rfl rfl)
  have x1 : ((w.alloc (.cells #[.slice a rows.length c, .slice a' zs.length c'] 56)).alloc (.cells #[.slice none 0 0, .slice none 0 0] 56)).cell? ⟨w.heap.size, 1, none⟩ = some (.slice a' zs.length c') := cell_old _ (cell_new _ _ _ rfl rfl)
  have y0 : ((w.alloc (.cells #[.slice a rows.length c, .slice a' zs.length c'] 56)).alloc (.cells #[.slice none 0 0, .slice none 0 0] 56)).cell? ⟨w.heap.size + 1, 0, none⟩ = some (.slice none 0 0) := cell_new _ _ _ (by simp) rfl
  have y1 : ((w.alloc (.cells #[.slice a rows.length c, .slice a' zs.length c'] 56)).alloc (.cells #[.slice none 0 0, .slice none 0 0] 56)).cell? ⟨w.heap.size + 1, 1, none⟩ = some (.slice none 0 0) := cell_new _ _ _ (by simp) rfl
  have z0 : ((w.alloc (.cells #[.slice a rows.length c, .slice a' zs.length c'] 56)).alloc (.cells #[.slice none 0 0, .slice none 0 0] 56)).frozen? ⟨w.heap.size + 1, 0, none⟩ = false := fro_new _ _ _ (by simp)
  have z1 : ((w.alloc (.cells #[.slice a rows.length c, .slice a' zs.length c'] 56)).alloc (.cells #[.slice none 0 0, .slice none 0 0] 56)).frozen? ⟨w.heap.size + 1, 1, none⟩ = false := fro_new _ _ _ (by simp)
  have HB := Lib.hid ((below_alloc w (.cells #[.slice a rows.length c, .slice a' zs.length c'] 56)).alloc (by simp) (.cells #[.slice none 0 0, .slice none 0 0] 56))
  have s0 : w.heap.size + 2 ≤ ((w.alloc (.cells #[.slice a rows.length c, .slice a' zs.length c'] 56)).alloc (.cells #[.slice none 0 0, .slice none 0 0] 56)).heap.size := by simp
  generalize hw : ((w.alloc (.cells #[.slice a rows.length c, .slice a' zs.length c'] 56)).alloc (.cells #[.slice none 0 0, .slice none 0 0] 56)) = w0 at *
  have HW := Lib.hid hw
  clear hw
  go_enter Try.func68, Try.ntmps68
  go_wp2_with (refine wpList_make_full _ rfl _ _ 28 rfl w0.heap.size 22 i0 (.slice none 0 0) 1 Try.underlying28 hi hz0 hz1 .i64 .i64 _ _ rows.length rfl rfl rfl rfl (by rw [hz2]; omega) (by unfold maxLen; omega) (by first | exact Nat.le_refl _ | (rw [← HW.out]; exact Nat.le_refl _)) ?_; intro w1 hown1 hgrow1; refine Hid.out ?_)
  refine Lib.hid ?_
  rw [HW.out] at hgrow1
  have hb1 : Below w0.heap.size w0 w1 := (Below.refl _ _).grown hgrow1 (Nat.le_refl _) (by simp)
  rw [show (Value.slice none 0 0).cells = #[Value.slice none 0 0] from rfl, Nat.mul_one, toList_madeCells_one] at hown1
  have hgg := OwnPart.start (g := w0.heap.size) (rows := rows.map f) (by simpa [← HW.out] using hown1)
  have HX := Lib.hid (show w1.cell? ⟨w.heap.size, 0, none⟩ = some (.slice a rows.length c) ∧ w1.cell? ⟨w.heap.size, 1, none⟩ = some (.slice a' zs.length c') ∧ w1.cell? ⟨w.heap.size + 1, 0, none⟩ = some (.slice none 0 0) ∧ w1.cell? ⟨w.heap.size + 1, 1, none⟩ = some (.slice none 0 0) ∧ w1.frozen? ⟨w.heap.size + 1, 0, none⟩ = false ∧ w1.frozen? ⟨w.heap.size + 1, 1, none⟩ = false from ⟨cell_below hb1 x0 (by omega), cell_below hb1 x1 (by omega), cell_below hb1 y0 (by omega), cell_below hb1 y1 (by omega), fro_below hb1 z0 (by omega), fro_below hb1 z1 (by omega)⟩)
  obtain ⟨x0', x1', y0', y1', z0', z1'⟩ := HX.out
  have EW := Lib.hid (show w.heap.size + 1 + 1 = w0.heap.size from by rw [← HW.out]; simp)
  have HG := Lib.hid (show OwnPart w0.heap.size w0.heap.size w1 (rows.map f) 0 from by have := hgg; rw [EW.out] at this; exact this)
  have HB1 := Lib.hid hb1
  have hs1 := hb1.size
  clear x0 x1 y0 y1 z0 z1 hgrow1 hgg hown1 hb1
  go_wp2_with fail
  rw [EW.out]
  go_loopw [15] (fun i wr => ∃ k : Nat, k ≤ rows.length ∧ i = .int .i64 k ∧ OwnPart w0.heap.size w0.heap.size wr (rows.map f) k ∧ Below w0.heap.size w0 wr ∧ Hid (wr.cell? ⟨w.heap.size, 1, none⟩ = some (.slice a' zs.length c') ∧ wr.cell? ⟨w.heap.size + 1, 0, none⟩ = some (.slice none 0 0) ∧ wr.cell? ⟨w.heap.size + 1, 1, none⟩ = some (.slice none 0 0) ∧ wr.frozen? ⟨w.heap.size + 1, 0, none⟩ = false ∧ wr.frozen? ⟨w.heap.size + 1, 1, none⟩ = false)) (fun i _ => rows.length - (intOf i).toNat)
  case atStart => exact ⟨0, Nat.zero_le _, rfl, HG.out, HB1.out, Lib.hid ⟨x1', y0', y1', z0', z1'⟩⟩
  case round =>
    obtain ⟨k, hk', rfl, hown, hbel, HCe⟩ := hrel
    have HO := Lib.hid hown
    have HBl := Lib.hid hbel
    have hsz := hbel.size
    clear x0' x1' y0' y1' z0' z1' HX
    by_cases hlt : k < rows.length
    · obtain ⟨bl, off, p, q, rfl, hbl, hc, hpq, hrow⟩ := (HR.out.below HB.out).at hlt
      replace hc := cell_below hbel hc (by omega)
      have HCL := Lib.hid (HC.out k wr p q hlt (HB.out.trans (hbel.mono (by omega))) (hrow.below hbel))
      have HM := Lib.hid (map_getD f rows k hlt)
      have i1 : (0 : Int) ≤ (k : Int) := by omega
      have i2 : (k : Int) < (rows.length : Int) := by omega
      clear hown hbel hrow hpq
      generalize rows.getD k [] = r at *
      go_wp2_with fail
      refine HCL.out.mono ?_
      rintro e w2 ⟨v, rfl, hov, hb2⟩
      obtain ⟨p2, q2, hv2, _, _, _⟩ := hov.slice
      subst hv2
      obtain ⟨hcell, hfro, hst⟩ := HO.out.store (by simpa using hlt) hb2 (by rw [HM.out]; exact hov)
      have HST := Lib.hid hst
      have HB2 := Lib.hid (HBl.out.trans (hb2.mono hsz))
      have HCe2 : Hid (w2.cell? ⟨w.heap.size, 1, none⟩ = some (.slice a' zs.length c') ∧ w2.cell? ⟨w.heap.size + 1, 0, none⟩ = some (.slice none 0 0) ∧ w2.cell? ⟨w.heap.size + 1, 1, none⟩ = some (.slice none 0 0) ∧ w2.frozen? ⟨w.heap.size + 1, 0, none⟩ = false ∧ w2.frozen? ⟨w.heap.size + 1, 1, none⟩ = false) := Lib.hid ⟨cell_below hb2 HCe.out.1 (by omega), cell_below hb2 HCe.out.2.1 (by omega), cell_below hb2 HCe.out.2.2.1 (by omega), fro_below hb2 HCe.out.2.2.2.1 (by omega), fro_below hb2 HCe.out.2.2.2.2 (by omega)⟩
      have hs2 := hb2.size
      clear hst hb2 hov
      go_wp2_with fail
      go_roundw
      case rel => exact ⟨k + 1, by omega, by go_num, HST.out, HB2.out.setCell (Nat.le_refl _) _, Lib.hid ⟨cell_set HCe2.out.1 (by simp; omega) _, cell_set HCe2.out.2.1 (by simp; omega) _, cell_set HCe2.out.2.2.1 (by simp; omega) _, fro_set HCe2.out.2.2.2.1 (by simp; omega) _, fro_set HCe2.out.2.2.2.2 (by simp; omega) _⟩⟩
      case measure => simp [intOf]; omega
    · obtain rfl : k = rows.length := by omega
      obtain ⟨x1, y0, y1, z0, z1⟩ := HCe.out
      have HG2 := Lib.hid (show OwnG w0.heap.size wr.heap.size wr (.slice (some ⟨w0.heap.size, 0, none⟩) rows.length rows.length) (rows.map f) from by
        have hown' : OwnPart w0.heap.size w0.heap.size wr (rows.map f) (rows.map f).length := by rw [List.length_map]; exact hown
        have := hown'.done
        rw [List.length_map] at this
        exact this)
      have HCl := Lib.hid (clone_any a' zs c' wr (HZ.out.below (HB.out.trans (hbel.mono (by omega)))) hk)
      clear hown hbel
      go_wp2_with fail
      refine HCl.out.mono ?_
      rintro e w2 ⟨v, rfl, ho2, hb2⟩
      obtain ⟨p2, q2, hv2, _, _, _⟩ := ho2.slice
      subst hv2
      replace y0 := cell_below hb2 y0 (by omega)
      replace y1 := cell_below hb2 y1 (by omega)
      replace z0 := fro_below hb2 z0 (by omega)
      replace z1 := fro_below hb2 z1 (by omega)
      have HS := Lib.hid (OwnS.of (lo := w0.heap.size) (hi := w2.heap.size) (HG2.out.below hb2) ho2 (.inl (Nat.le_refl _)) (Nat.le_refl _) hsz hb2.size (Nat.le_refl _))
      have HB2 := Lib.hid (HB.out.trans ((HBl.out.trans (hb2.mono hsz)).mono (by omega)))
      clear ho2 hb2 x1
      go_wp2_with fail
      refine bodyPost_ret (v := .agg #[.slice (some ⟨w0.heap.size, 0, none⟩) rows.length rows.length, .slice p2 zs.length q2]) (by simp [results, Try.results68, go_sem, y0, y1]) rfl ⟨_, _, rfl, ?_, ?_⟩
      · simp only [size_set]; exact ((HS.out.set (by simp; omega) _).set (by simp; omega) _).mono (by omega) (Nat.le_refl _)
      · exact (HB2.out.setCell (by simp) _).setCell (by simp) _
end Go.Proofs.Ytoephhhofkmgjab.changed

namespace Go.Proofs.Ytoephhhofkmgjab.wts
open Go.RowKit own pp nums own1 rowscopy
set_option linter.unusedVariables false
set_option linter.unusedSimpArgs false

/-- A row with each last number from -3 to 3. -/
def ext (r : List Int) (u : Nat) : List (List Int) := (List.range u).map fun v : Nat => r ++ [(v : Int) - 3]
def stepW (rows : List (List Int)) : List (List Int) := rows.flatMap fun r => ext r 7
def wts : Nat → List (List Int)
  | 0 => [[]]
  | n + 1 => stepW (wts n)
def stepTo (rows : List (List Int)) (k u : Nat) : List (List Int) := (rows.take k).flatMap (fun r => ext r 7) ++ ext (rows.getD k []) u
theorem ext_succ (r : List Int) (u : Nat) : ext r (u + 1) = ext r u ++ [r ++ [(u : Int) - 3]] := by simp [ext, List.range_succ]
theorem ext_length (r : List Int) (u : Nat) : (ext r u).length = u := by simp [ext]
theorem stepTo_zero (rows : List (List Int)) : stepTo rows 0 0 = [] := by simp [stepTo, ext]
theorem stepTo_succ (rows : List (List Int)) (k u : Nat) : stepTo rows k (u + 1) = stepTo rows k u ++ [rows.getD k [] ++ [(u : Int) - 3]] := by
  unfold stepTo
  rw [ext_succ, List.append_assoc]
theorem stepTo_next (rows : List (List Int)) (k : Nat) (h : k < rows.length) : stepTo rows k 7 = stepTo rows (k + 1) 0 := by
  unfold stepTo
  rw [take_snoc_getD rows k h, List.flatMap_append]
  simp [ext]
theorem stepTo_all (rows : List (List Int)) : stepTo rows rows.length 0 = stepW rows := by
  unfold stepTo stepW
  rw [List.take_length]
  simp [ext]
theorem step_length (rows : List (List Int)) : (stepW rows).length = rows.length * 7 := by
  unfold stepW
  induction rows with
  | nil => rfl
  | cons r t ih => rw [List.flatMap_cons, List.length_append, ih, ext_length, List.length_cons]; omega
theorem stepTo_length (rows : List (List Int)) (k u : Nat) (h : k ≤ rows.length) : (stepTo rows k u).length = k * 7 + u := by
  have h1 := step_length (rows.take k)
  unfold stepW at h1
  unfold stepTo
  rw [List.length_append, h1, ext_length, List.length_take, Nat.min_eq_left h]
theorem wts_length (n : Nat) : (wts n).length = 7 ^ n := by
  induction n with
  | zero => rfl
  | succ n ih => rw [wts, step_length, ih, Nat.pow_succ]
theorem wts_row {n : Nat} {r : List Int} (h : r ∈ wts n) : r.length = n ∧ ∀ z ∈ r, -3 ≤ z ∧ z ≤ 3 := by
  induction n generalizing r with
  | zero =>
    simp [wts] at h
    subst h
    simp
  | succ n ih =>
    rw [wts, stepW, List.mem_flatMap] at h
    obtain ⟨s, hs, hr⟩ := h
    unfold ext at hr
    rw [List.mem_map] at hr
    obtain ⟨v, hv, rfl⟩ := hr
    have hv := List.mem_range.1 hv
    have h1 := ih hs
    refine ⟨by rw [List.length_append, h1.1]; rfl, fun z hz => ?_⟩
    rw [List.mem_append, List.mem_singleton] at hz
    rcases hz with hz | rfl
    · exact h1.2 z hz
    · omega
theorem pow7 {n : Nat} (h : n ≤ 4) : 7 ^ n ≤ 2401 := Nat.le_trans (Nat.pow_le_pow_right (by omega) h) (by decide)
/-- One more row behind an append. -/
theorem pushR {lo hi k : Nat} {w2 w3 : World} {v c : Value} {cs : List Value} {rows : List (List Int)} {r : List Int} {O : Obj} (ho : w2.ownsRow lo 22 1 v k cs) (hr : RowsOf lo hi w2 cs rows) (hc : OwnI hi w2.heap.size w2 c r) (h1 : lo ≤ hi) (h2 : hi ≤ w2.heap.size)
    (hg : (w2.alloc O).grownBy w3 v.ownBlock) : RowsOf lo w3.heap.size w3 (cs ++ [c]) (rows ++ [r]) := by
  have h := hr.snoc hc h1 h2
  have hs : w2.heap.size ≤ w3.heap.size := Nat.le_trans (by simp) hg.size
  refine (h.keep fun g hl hh hgs hbl => ?_).mono (Nat.le_refl _) hs
  rw [hg.block g (by simp; omega) (fun e => ?_), Below.heap_alloc w2 O g hgs]
  obtain ⟨i, hi', hb⟩ := hbl
  exact ownsRow_ne (h.2.1 i hi').1 ho (by decide) hb e.symm
set_option maxRecDepth 100000 in
set_option maxHeartbeats 4000000 in
theorem own_none1 (c : Nat) (w : World) :
    Calls Try.prog 62 #[.slice none 0 c] w (intfns.Made [] w) := by
  go_enter Try.func62, Try.ntmps62
  go_wp2_with fail
  go_ret
  exact ⟨_, rfl, (own_empty w).mono (Nat.le_refl _) (by simp), below_alloc w _⟩
set_option maxRecDepth 100000 in
set_option maxHeartbeats 4000000 in
theorem own_none2 (p : Addr) (c : Nat) (w : World) :
    Calls Try.prog 62 #[.slice (some p) 0 c] w (intfns.Made [] w) := by
  obtain ⟨i0, hi, hz0, hz1, hz2⟩ := info_parts own1.infoInt
  have HB := Lib.hid (below_alloc w (.cells #[] 3))
  have HO := Lib.hid (show (w.alloc (.cells #[] 3)).ownsRow w.heap.size 3 1 (.slice (some ⟨w.heap.size, 0, none⟩) 0 0) 0 [] from (own_empty w).1)
  have HN := Lib.hid (show ∀ j u, ([] : List Value)[j]? = some u → (w.alloc (.cells #[] 3)).cell? (p.add j) = some u from fun j u h => by simp at h)
  go_enter Try.func62, Try.ntmps62
  go_wp2_with (at_builtin; refine wpList_append_own _ rfl _ _ 22 rfl w.heap.size 3 i0 (.int .i64 0) 1 8 Try.underlying22 hi hz0 hz1 hz2 rfl (by decide) _ _ _ rfl HO.out p 0 c [] rfl (by simp) HN.out (by simp [Value.oneCell']) (by unfold maxLen; omega) (by omega) (by simp) ?_; intro v' w2 hown' hgrow _)
  have HO2 := Lib.hid (show w2.ownsRow w.heap.size 3 1 v' 0 [] by simpa using hown')
  have HB2 := Lib.hid (HB.out.grown hgrow (by simp) (fun g e => (HO.out.lt g e).1))
  clear hown' hgrow
  go_wp2_with fail
  go_ret
  exact ⟨v', rfl, OwnI.of HO2.out, HB2.out⟩
theorem own_any (a : Option Addr) (zs : List Int) (c : Nat) (w : World) (hr : ints.Reads .i64 w a zs) (hn : zs.length ≤ 1048576) :
    Calls Try.prog 62 #[.slice a zs.length c] w (intfns.Made zs w) := by
  by_cases h0 : 0 < zs.length
  · exact own1.spec_own a zs c w hr hn h0
  · have e : zs = [] := List.length_eq_zero_iff.1 (by omega)
    subst e
    cases a with
    | none => exact own_none1 c w
    | some p => exact own_none2 p c w
set_option maxRecDepth 100000 in
set_option maxHeartbeats 4000000 in
theorem spec_weights (n : Nat) (w : World) (h4 : n ≤ 4) :
    Calls Try.prog 112 #[.int .i64 n] w (MadeG (wts n) w) := by
  obtain ⟨i0, hi, hz0, hz1, hz2⟩ := info_parts rowscopy.infoInts
  obtain ⟨j0, ji, jz0, jz1, jz2⟩ := info_parts own1.infoInt
  go_enter Try.func112, Try.ntmps112
  go_wp2_with fail
  obtain ⟨wa, hwa⟩ : ∃ wa : World, wa = (w.alloc (.cells #[] 3)).alloc (.cells #[.slice (some ⟨w.heap.size, 0, none⟩) 0 0] 22) := ⟨_, rfl⟩
  have HBa := Lib.hid (show Below w.heap.size w wa by rw [hwa]; exact (below_alloc w _).alloc (by simp) _)
  have HGa := Lib.hid (show OwnG w.heap.size wa.heap.size wa (.slice (some ⟨w.heap.size + 1, 0, none⟩) 1 1) (wts 0) from ⟨[.slice (some ⟨w.heap.size, 0, none⟩) 0 0], ⟨rfl, .inr ⟨w.heap.size + 1, 1, #[.slice (some ⟨w.heap.size, 0, none⟩) 0 0], rfl, by omega, by
      rw [hwa]
      have := heap_alloc_new (w.alloc (.cells #[] 3)) (.cells #[.slice (some ⟨w.heap.size, 0, none⟩) 0 0] 22)
      rwa [World.size_alloc] at this, Nat.le_refl _, by unfold maxLen; omega, rfl, rfl⟩⟩, fun g hg => by simp [Value.ownBlock] at hg; rw [hwa]; simp; omega, rfl, fun i hi => by
        obtain rfl : i = 0 := by simp [wts] at hi; omega
        have h1 := (own_empty w).below (below_alloc (w.alloc (.cells #[] 3)) (.cells #[.slice (some ⟨w.heap.size, 0, none⟩) 0 0] 22))
        rw [← hwa] at h1
        exact h1.mono (Nat.le_refl _) (by rw [hwa]; simp), fun i j hij hj => by simp [wts] at hj; omega⟩)
  rw [← hwa]
  clear hwa
  go_loopw [3, 4] (fun v i wr => ∃ (k : Nat), k ≤ n ∧ i = .int .i64 k ∧ Hid (OwnG w.heap.size wr.heap.size wr v (wts k)) ∧ Hid (Below w.heap.size w wr)) (fun _ i _ => n - (intOf i).toNat)
  case atStart => exact ⟨0, Nat.zero_le _, rfl, HGa, HBa⟩
  case round =>
    obtain ⟨k, hk, rfl, HG, HB⟩ := hrel
    clear HGa HBa
    by_cases hlt : k < n
    · obtain ⟨ao, co, hvo, hro, _, _⟩ := HG.out.slice
      subst hvo
      have HRO := Lib.hid hro
      have hlen := wts_length k
      have hp7 := pow7 (show k ≤ 4 by omega)
      have hl24 : (wts k).length ≤ 2401 := by omega
      have hRW := Lib.hid (fun r (hr : r ∈ wts k) => (wts_row hr).1)
      have HNX := Lib.hid (show stepW (wts k) = wts (k + 1) from rfl)
      have hszW := HB.out.size
      clear hro hlen hp7
      generalize wts k = rows at *
      have HBz := Lib.hid (Below.refl wr.heap.size wr)
      obtain ⟨wW, hwW⟩ : ∃ wW : World, wW = wr := ⟨_, rfl⟩
      have hown0 := (rowscopy.ownG_empty wW).2
      have hb0 := below_alloc wW (.cells #[] 22)
      rw [← hwW] at HRO HB HBz hszW
      have HRow := HRO
      have HBW := HB
      go_wp2_with fail
      rw [← hwW]
      clear hwW HG HBz
      go_loopw [5, 6] (fun v i wr2 => ∃ (q : Nat) (cs : List Value), q ≤ rows.length ∧ i = .int .i64 q ∧ Hid (wr2.ownsRow wW.heap.size 22 1 v (q * 7) cs) ∧ Hid (RowsOf wW.heap.size wr2.heap.size wr2 cs (stepTo rows q 0)) ∧ Hid (Below wW.heap.size wW wr2)) (fun _ i _ => rows.length - (intOf i).toNat)
      case atStart => exact ⟨0, [], Nat.zero_le _, rfl, Lib.hid hown0, Lib.hid (by rw [stepTo_zero]; exact RowsOf.nil _ _ _), Lib.hid hb0⟩
      case round =>
        obtain ⟨q, cs, hq, rfl, HO, HRW, HBl⟩ := hrel
        clear hown0 hb0
        by_cases hqt : q < rows.length
        · go_wp2_with fail
          have HS0 := Lib.hid (stepTo_next rows q hqt)
          go_loopw [5, 7] (fun v i wr3 => ∃ (u : Nat) (cs : List Value), u ≤ 7 ∧ i = .int .i64 ((u : Int) - 3) ∧ Hid (wr3.ownsRow wW.heap.size 22 1 v (q * 7 + u) cs) ∧ Hid (RowsOf wW.heap.size wr3.heap.size wr3 cs (stepTo rows q u)) ∧ Hid (Below wW.heap.size wW wr3)) (fun _ i _ => (4 - intOf i).toNat)
          case atStart => exact ⟨0, cs, by omega, by go_num, HO, HRW, HBl⟩
          case round =>
            obtain ⟨u, cs, hu, rfl, HO, HRW, HBl⟩ := hrel
            by_cases hut : u < 7
            · obtain ⟨bl, off, p, c, hpe, hbl, hc, hpq, hrow⟩ := (HRow.out.below HBl.out).at hqt
              subst hpe
              have hmem : rows.getD q [] ∈ rows := by rw [List.getD_eq_getElem?_getD, List.getElem?_eq_getElem hqt]; exact List.getElem_mem hqt
              have hrl := hRW.out _ hmem
              have hr4 : (rows.getD q []).length ≤ 4 := by omega
              clear hrl
              have HRr := Lib.hid hrow
              have HSS := Lib.hid (stepTo_succ rows q u)
              have hsz := HBl.out.size
              have HV := Lib.hid HO.out.lt
              have i1 : (0 : Int) ≤ (q : Int) := by omega
              have i2 : (q : Int) < (rows.length : Int) := by omega
              have i3 : (u : Int) - 3 ≤ 3 := by omega
              clear hrow hmem
              generalize rows.getD q [] = r at *
              obtain ⟨z, hz⟩ : ∃ z : Int, z = (u : Int) - 3 := ⟨_, rfl⟩
              have HZE := Lib.hid hz
              have hz1' : -3 ≤ z := by omega
              have hz2' : z ≤ 3 := by omega
              rw [← hz] at HSS ⊢
              clear hz i3
              go_wp2_with fail
              refine (own_any p r c _ HRr.out (by omega)).mono ?_
              rintro e w2 ⟨v2, rfl, ho2, hb2⟩
              obtain ⟨p2, q2, hv2, _, _, _⟩ := ho2.slice
              subst hv2
              have HO2 := Lib.hid ho2
              have HOr := Lib.hid ho2.1
              have HOG := Lib.hid (ownsRow_block HO.out fun g hg => hb2.block g (HO.out.lt g hg).2)
              have HRG := Lib.hid (HRW.out.below hb2)
              have HB2 := Lib.hid (HBl.out.trans (hb2.mono hsz))
              have hs2 := hb2.size
              clear ho2 hb2 HO HRW
              go_wp2_with (at_builtin; refine wpList_append_own _ rfl _ _ 22 rfl wr.heap.size 3 j0 (.int .i64 0) 1 8 Try.underlying22 ji jz0 jz1 jz2 rfl (by decide) _ _ _ rfl (HOr.out.alloc _) ⟨w2.heap.size, 0, none⟩ 1 1 [.int .i64 z] rfl rfl (cell_one_new _ _ _) (by simp [Value.oneCell']) (by unfold maxLen; omega) (by omega) (by simp; omega) ?_; intro v3 w3 hown3 hgrow3 _; refine Hid.out ?_)
              refine Lib.hid ?_
              obtain ⟨g3, cap3, hv3⟩ := ownsRow_succ hown3
              subst hv3
              have hs3 : w2.heap.size + 1 ≤ w3.heap.size := Nat.le_trans (by simp) hgrow3.size
              have hgb : ∀ g, g < wr.heap.size → w3.heap[g]? = w2.heap[g]? := fun g hg => by
                rw [hgrow3.block g (by simp; omega) (fun e => by have := (HO2.out.lt e.symm).1; omega), Below.heap_alloc w2 _ g (by omega)]
              have HOG3 := Lib.hid (ownsRow_block HOG.out fun g hg => hgb g (HV.out g hg).2)
              have HRG3 := Lib.hid (HRG.out.keep fun g hl hh hgs _ => hgb g hh)
              have HO3 := Lib.hid (show OwnI wr.heap.size w3.heap.size w3 (.slice (some ⟨g3, 0, none⟩) (r.length + 1) cap3) (r ++ [z]) from OwnI.of (by rw [List.length_append, List.map_append]; exact hown3))
              have HB3 := Lib.hid ((HB2.out.alloc (by omega) _).grown hgrow3 (by simp; omega) (fun g e => by have := (HO2.out.lt e).1; omega))
              have HVm := Lib.hid (fun g hg => (HV.out g hg).1)
              have hm : q * 7 + u + 1 ≤ 100000 := by omega
              clear hown3 hgrow3 hgb HO2 HOr
              go_wp2_with (at_builtin; refine wpList_append_own _ rfl _ _ 28 rfl wW.heap.size 22 i0 (.slice none 0 0) 1 24 Try.underlying28 hi hz0 hz1 hz2 rfl (by decide) _ _ _ rfl (HOG3.out.alloc _) ⟨w3.heap.size, 0, none⟩ 1 1 [.slice (some ⟨g3, 0, none⟩) (r.length + 1) cap3] rfl rfl (cell_one_new _ _ _) (by simp [Value.oneCell']) (by unfold maxLen; omega) (by omega) (by simp; omega) ?_; intro v' w4 hown' hgrow _)
              obtain ⟨g', cap', hv'⟩ := ownsRow_succ hown'
              subst hv'
              have HO4 := Lib.hid hown'
              have HR4 := Lib.hid (pushR HOG3.out HRG3.out HO3.out hsz (by omega) hgrow)
              rw [← HSS.out] at HR4
              have HB4 := Lib.hid ((HB3.out.alloc (by omega) _).grown hgrow (by simp; omega) (fun g e => HVm.out g e))
              clear hown' hgrow
              go_wp2_with fail
              go_roundw
              case rel => exact ⟨u + 1, cs ++ [.slice (some ⟨g3, 0, none⟩) (r.length + 1) cap3], by omega, by rw [HZE.out]; go_num, HO4, HR4, HB4⟩
              case measure => simp [intOf]; omega
            · obtain rfl : u = 7 := by omega
              rw [HS0.out] at HRW
              have HO7 := Lib.hid (show wr.ownsRow wW.heap.size 22 1 u5 ((q + 1) * 7) cs by rw [show (q + 1) * 7 = q * 7 + 7 by omega]; exact HO.out)
              go_wp2_with fail
              go_roundw
              case rel => exact ⟨q + 1, cs, by omega, by go_num, HO7, HRW, HBl⟩
              case measure => simp [intOf]; omega
        · obtain rfl : q = rows.length := by omega
          have HGn := Lib.hid (show OwnG w.heap.size wr.heap.size wr u5 (wts (k + 1)) from by
            rw [← HNX.out]
            have h1 := HRW.out
            rw [stepTo_all] at h1
            exact ⟨cs, ownsRow_base (by rw [step_length]; exact HO.out) (fun g hg => by have := (HO.out.lt g hg).1; omega), fun g hg => (HO.out.lt g hg).2, h1.mono hszW (Nat.le_refl _)⟩)
          have HBn := Lib.hid (HBW.out.trans (HBl.out.mono hszW))
          go_wp2_with fail
          go_roundw
          case rel => exact ⟨k + 1, by omega, by go_num, HGn, HBn⟩
          case measure => simp [intOf]; omega
    · obtain rfl : k = n := by omega
      have HF := Lib.hid (show MadeG (wts k) w (.returned u3) wr from ⟨u3, rfl, HG.out, HB.out⟩)
      go_wp2_with fail
      go_ret
      exact HF.out
end Go.Proofs.Ytoephhhofkmgjab.wts

namespace Go.Proofs.Ytoephhhofkmgjab.cub
open Go.RowKit own wts
set_option linter.unusedVariables false
set_option linter.unusedSimpArgs false

/-- The weight at j of the place p. -/
def wt (n L p j : Nat) : Int := ((p / (2 * L + 1) ^ (n - 1 - j) % (2 * L + 1) : Nat) : Int) - L
def cub (n L p : Nat) : List Int := (List.range n).map (wt n L p)
/-- The same with the last i weights alone. -/
def cubTo (n L p i : Nat) : List Int := (List.range n).map fun j => if n ≤ j + i then wt n L p j else 0
theorem cub_length (n L p : Nat) : (cub n L p).length = n := by simp [cub]
theorem cubTo_length (n L p i : Nat) : (cubTo n L p i).length = n := by simp [cubTo]
theorem cubTo_zero (n L p : Nat) : cubTo n L p 0 = List.replicate n 0 := by
  apply List.ext_getElem
  · simp [cubTo]
  · intro j h1 h2
    have : j < n := by simpa [cubTo] using h1
    simp [cubTo]
    intro h; omega
theorem cubTo_all (n L p : Nat) : cubTo n L p n = cub n L p := by
  unfold cubTo cub
  refine List.map_congr_left fun j hj => ?_
  rw [if_pos (by omega)]
theorem cubTo_getD {n L p i u : Nat} (h : u + i + 1 = n) : (cubTo n L p i).getD u 0 = 0 := by
  simp [cubTo, List.getD_eq_getElem?_getD, show u < n by omega]
  intro h; omega
theorem cubTo_set {n L p i u : Nat} (h : u + i + 1 = n) : (cubTo n L p i).set u (((p / (2 * L + 1) ^ i % (2 * L + 1) : Nat) : Int) - L) = cubTo n L p (i + 1) := by
  apply List.ext_getElem
  · simp [cubTo]
  · intro j h1 h2
    have hj : j < n := by simpa [cubTo] using h2
    rw [List.getElem_set]
    split
    · next e => subst e; simp [cubTo, wt, show n ≤ u + (i + 1) by omega, show n - 1 - u = i by omega]
    · next e =>
      simp only [cubTo, List.getElem_map, List.getElem_range]
      by_cases hc : n ≤ j + i
      · rw [if_pos hc, if_pos (by omega)]
      · rw [if_neg hc, if_neg (by omega)]
theorem cub_succ (n L p : Nat) : cub (n + 1) L p = cub n L (p / (2 * L + 1)) ++ [((p % (2 * L + 1) : Nat) : Int) - L] := by
  unfold cub
  rw [List.range_succ, List.map_append]
  congr 1
  · refine List.map_congr_left fun j hj => ?_
    have hj' : j < n := List.mem_range.1 hj
    unfold wt
    rw [show n + 1 - 1 - j = (n - 1 - j) + 1 by omega, Nat.pow_succ, Nat.mul_comm, Nat.div_div_eq_div_mul]
  · simp [wt]
theorem cub_bd (n L p : Nat) : ∀ z ∈ cub n L p, -(L : Int) ≤ z ∧ z ≤ L := by
  intro z hz
  obtain ⟨j, _, rfl⟩ := List.mem_map.1 hz
  have : p / (2 * L + 1) ^ (n - 1 - j) % (2 * L + 1) < 2 * L + 1 := Nat.mod_lt _ (by omega)
  unfold wt
  generalize p / (2 * L + 1) ^ (n - 1 - j) % (2 * L + 1) = x at *
  omega
theorem flat_at {α β : Type} (f : α → List β) (m : Nat) (hm : 0 < m) (d : α) (e : β) (xs : List α) (hf : ∀ x ∈ xs, (f x).length = m) (p : Nat) (h : p < xs.length * m) : (xs.flatMap f).getD p e = (f (xs.getD (p / m) d)).getD (p % m) e := by
  induction xs generalizing p with
  | nil => simp at h
  | cons x t ih =>
    have hx := hf x (by simp)
    rw [List.flatMap_cons]
    by_cases hp : p < m
    · rw [List.getD_eq_getElem?_getD, List.getElem?_append_left (by omega), Nat.div_eq_of_lt hp, Nat.mod_eq_of_lt hp, ← List.getD_eq_getElem?_getD]; rfl
    · rw [List.getD_eq_getElem?_getD, List.getElem?_append_right (by omega), ← List.getD_eq_getElem?_getD, hx, ih (fun y hy => hf y (by simp [hy])) (p - m) (by simp [Nat.add_mul] at h; omega)]
      rw [Nat.div_eq_sub_div (b := m) (a := p) hm (by omega), Nat.mod_eq_sub_mod (a := p) (b := m) (by omega)]
      rfl
theorem wts_at (n p : Nat) (h : p < 7 ^ n) : (wts n).getD p [] = cub n 3 p := by
  induction n generalizing p with
  | zero => have : p = 0 := by simpa using h
            subst this; rfl
  | succ n ih =>
    have hp : p / 7 < 7 ^ n := Nat.div_lt_of_lt_mul (by rwa [Nat.pow_succ, Nat.mul_comm] at h)
    show (stepW (wts n)).getD p [] = _
    unfold stepW
    rw [flat_at (fun r => ext r 7) 7 (by omega) [] [] (wts n) (fun r _ => ext_length r 7) p (by rw [wts_length, ← Nat.pow_succ]; exact h), ih _ hp, cub_succ]
    have hm : p % 7 < 7 := Nat.mod_lt _ (by omega)
    simp [ext, List.getD_eq_getElem?_getD, hm]

set_option maxRecDepth 100000 in
set_option maxHeartbeats 2000000 in
theorem size_of (n L : Nat) (w : World) (hL : 2 * L + 1 ≤ 1048576) (hn : n ≤ 1048576) (h : (2 * L + 1) ^ n ≤ 1048576) :
    Calls Try.prog 116 #[.agg #[.int .i64 n, .int .i64 L]] w fun e w' => e = .returned (.int .i64 (((2 * L + 1) ^ n : Nat) : Int)) ∧ Below w.heap.size w w' := by
  have HN := Lib.hid h
  clear h
  go_enter Try.func116, Try.ntmps116
  go_wp2_with fail
  have x0_0 : (w.alloc (.cells #[.int .i64 n, .int .i64 L] 100)).cell? ⟨w.heap.size, 0, none⟩ = some (.int .i64 n) := cell_new _ _ _ (by simp) rfl
  have x0_1 : (w.alloc (.cells #[.int .i64 n, .int .i64 L] 100)).cell? ⟨w.heap.size, 1, none⟩ = some (.int .i64 L) := cell_new _ _ _ (by simp) rfl
  have HB0 := Lib.hid (below_alloc w (.cells #[.int .i64 n, .int .i64 L] 100))
  generalize hw : (w.alloc (.cells #[.int .i64 n, .int .i64 L] 100)) = w0 at *
  clear hw
  have i0 : (0 : Int) ≤ (L : Int) := by omega
  have i1 : 2 * (L : Int) + 1 ≤ 1048576 := by omega
  go_wp2_with fail
  go_loopw [3, 6] (fun s i wr => ∃ (k : Nat), k ≤ n ∧ i = .int .i64 k ∧ s = .int .i64 (((2 * L + 1) ^ k : Nat) : Int) ∧ wr = w0) (fun _ i _ => n - (intOf i).toNat)
  case atStart => exact ⟨0, Nat.zero_le _, rfl, by simp, rfl⟩
  case round =>
    obtain ⟨k, hk, rfl, rfl, rfl⟩ := hrel
    by_cases hlt : k < n
    · have hp : (2 * L + 1) ^ (k + 1) ≤ (2 * L + 1) ^ n := Nat.pow_le_pow_right (by omega) (by omega)
      have hs : (((2 * L + 1) ^ k : Nat) : Int) * (2 * (L : Int) + 1) = (((2 * L + 1) ^ (k + 1) : Nat) : Int) := by rw [Nat.pow_succ]; push_cast; rfl
      have hq := HN.out
      have HS := Lib.hid hs
      have i5 : (0 : Int) ≤ (((2 * L + 1) ^ k : Nat) : Int) * (2 * (L : Int) + 1) := by rw [hs]; omega
      have i6 : (((2 * L + 1) ^ k : Nat) : Int) * (2 * (L : Int) + 1) ≤ 1048576 := by rw [hs]; omega
      clear hs hp hq
      generalize (((2 * L + 1) ^ k : Nat) : Int) = s at *
      have i2 : (0 : Int) ≤ (k : Int) := by omega
      have i3 : (k : Int) < (n : Int) := by omega
      have i4 : (n : Int) ≤ 1048576 := by omega
      go_wp2_with fail
      go_roundw
      case rel => exact ⟨k + 1, by omega, by go_num, by rw [HS.out], trivial⟩
      case measure => simp [intOf]; omega
    · obtain rfl : k = n := by omega
      go_wp2_with fail
      go_ret
      exact ⟨rfl, HB0.out⟩
end Go.Proofs.Ytoephhhofkmgjab.cub
