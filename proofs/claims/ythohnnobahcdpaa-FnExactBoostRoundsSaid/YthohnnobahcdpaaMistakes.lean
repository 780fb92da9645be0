/- The walks of the model's lists of mistakes. -/
import Derived.Test.YthohnnobahcdpaaSidesOf
namespace Go.Proofs.Ythohnnobahcdpaa.mistakes
open Go.RowKit own pp nums samplesv dots both sides
set_option linter.unusedVariables false
set_option linter.unusedSimpArgs false

/-- Is a point a mistake? -/
def isM (rows : List (List Int)) (zs : List Int) (ws : List Int) (b : Int) (k : Nat) : Bool := side ws b (rows.getD k []) != zs.getD k 0
/-- The mistakes among the first k points. -/
def misTo (rows : List (List Int)) (zs : List Int) (ws : List Int) (b : Int) (k : Nat) : List Int := ((List.range k).filter (isM rows zs ws b)).map fun i : Nat => (i : Int)
theorem misTo_length (rows : List (List Int)) (zs ws : List Int) (b : Int) (k : Nat) : (misTo rows zs ws b k).length ≤ k := by
  unfold misTo
  rw [List.length_map]
  exact Nat.le_trans (List.length_filter_le _ _) (by simp)
theorem misTo_hit (rows : List (List Int)) (zs ws : List Int) (b : Int) (k : Nat) (h : isM rows zs ws b k = true) : misTo rows zs ws b (k + 1) = misTo rows zs ws b k ++ [(k : Int)] := by
  simp [misTo, List.range_succ, List.filter_append, h]
theorem misTo_miss (rows : List (List Int)) (zs ws : List Int) (b : Int) (k : Nat) (h : isM rows zs ws b k = false) : misTo rows zs ws b (k + 1) = misTo rows zs ws b k := by
  simp [misTo, List.range_succ, List.filter_append, h]

set_option maxRecDepth 100000 in
set_option maxHeartbeats 4000000 in
theorem spec_mistakes (a : Option Addr) (rows : List (List Int)) (c : Nat) (a' : Option Addr) (zs : List Int) (c' : Nat) (p : Option Addr) (ws : List Int) (q : Nat) (b : Int) (w : World) (hr : grid.Reads w a rows) (hz : ints.Reads .i64 w a' zs) (hq : ints.Reads .i64 w p ws) (hl : zs.length = rows.length) (hn : rows.length ≤ 16) (hm : ws.length ≤ 1048576) (hF : RowsFit rows ws) :
    Calls Try.prog 117 #[.agg #[.slice a rows.length c, .slice a' zs.length c'], .agg #[.slice p ws.length q, .int .i64 b]] w (intfns.Made (misTo rows zs ws b rows.length) w) := by
  obtain ⟨i0, hi, hz0, hz1, hz2⟩ := info_parts infoInt
  have HR := Lib.hid hr
  have HZ := Lib.hid hz
  have HL := Lib.hid hl
  have HQ := Lib.hid hq
  have HF := Lib.hid hF
  clear hr hq hF hz hl
  have x0 : ((w.alloc (.cells #[.slice a rows.length c, .slice a' zs.length c'] 38)).alloc (.cells #[.slice p ws.length q, .int .i64 b] 27)).cell? ⟨w.heap.size, 0, none⟩ = some (.slice a rows.length c) := cell_old _ (cell_new _ _ _ rfl rfl)
  have x1 : ((w.alloc (.cells #[.slice a rows.length c, .slice a' zs.length c'] 38)).alloc (.cells #[.slice p ws.length q, .int .i64 b] 27)).cell? ⟨w.heap.size, 1, none⟩ = some (.slice a' zs.length c') := cell_old _ (cell_new _ _ _ rfl rfl)
  have y0 : ((w.alloc (.cells #[.slice a rows.length c, .slice a' zs.length c'] 38)).alloc (.cells #[.slice p ws.length q, .int .i64 b] 27)).cell? ⟨w.heap.size + 1, 0, none⟩ = some (.slice p ws.length q) := cell_new _ _ _ (by simp) rfl
  have y1 : ((w.alloc (.cells #[.slice a rows.length c, .slice a' zs.length c'] 38)).alloc (.cells #[.slice p ws.length q, .int .i64 b] 27)).cell? ⟨w.heap.size + 1, 1, none⟩ = some (.int .i64 b) := cell_new _ _ _ (by simp) rfl
  have HB := Lib.hid ((below_alloc w (.cells #[.slice a rows.length c, .slice a' zs.length c'] 38)).alloc (by simp) (.cells #[.slice p ws.length q, .int .i64 b] 27))
  have s0 : w.heap.size + 2 ≤ ((w.alloc (.cells #[.slice a rows.length c, .slice a' zs.length c'] 38)).alloc (.cells #[.slice p ws.length q, .int .i64 b] 27)).heap.size := by simp
  generalize hw : (w.alloc (.cells #[.slice a rows.length c, .slice a' zs.length c'] 38)).alloc (.cells #[.slice p ws.length q, .int .i64 b] 27) = w0 at *
  have HW := Lib.hid hw
  clear hw
  go_enter Try.func117, Try.ntmps117
  go_wp2_with fail
  rw [HW.out, show w.heap.size + 1 + 1 = w0.heap.size from by rw [← HW.out]; simp]
  have hown0 := World.ownsRow_made (base := w0.heap.size) (e := 3) (size := 1) w0 #[] 0 (Nat.le_refl _) (by unfold maxLen; omega) rfl
  have hb0 := below_alloc w0 (.cells #[] 3)
  go_loopw [5, 6] (fun v i wr => ∃ (k : Nat), k ≤ rows.length ∧ i = .int .i64 k ∧ wr.ownsRow w0.heap.size 3 1 v (misTo rows zs ws b k).length ((misTo rows zs ws b k).map (Value.int .i64)) ∧ Below w0.heap.size w0 wr) (fun _ i _ => rows.length - (intOf i).toNat)
  case atStart => exact ⟨0, Nat.zero_le _, rfl, hown0, hb0⟩
  case round =>
    obtain ⟨k, hk, rfl, hown, hbel⟩ := hrel
    have hvb := hown.lt
    clear hown0 hb0
    replace x0 := cell_below hbel x0 (by omega)
    replace x1 := cell_below hbel x1 (by omega)
    replace y0 := cell_below hbel y0 (by omega)
    replace y1 := cell_below hbel y1 (by omega)
    have hsz := hbel.size
    by_cases hlt : k < rows.length
    · obtain ⟨bl, off, rp, rq, hab, hbl, hc, hpq, hrow⟩ := (HR.out.below HB.out).at hlt
      subst hab
      replace hc := cell_below hbel hc (by omega)
      obtain ⟨lb, lo, hlb, hll, hlc⟩ := (HZ.out.below HB.out).at (k := k) (by have := HL.out; omega)
      subst hlb
      replace hlc := cell_below hbel hlc (by omega)
      have hFk := HF.out k hlt
      have HT := Lib.hid (show ∀ wa : World, (wa.cell? ⟨w.heap.size, 0, none⟩ = some (.slice (some ⟨bl, off, none⟩) rows.length c) ∧ wa.cell? ⟨w.heap.size, 1, none⟩ = some (.slice (some ⟨lb, lo, none⟩) zs.length c') ∧ wa.cell? ⟨w.heap.size + 1, 0, none⟩ = some (.slice p ws.length q) ∧ wa.cell? ⟨w.heap.size + 1, 1, none⟩ = some (.int .i64 b) ∧ wa.cell? ⟨bl, off + k, none⟩ = some (.slice rp (rows.getD k []).length rq) ∧ wa.cell? ⟨lb, lo + k, none⟩ = some (.int .i64 (zs.getD k 0)) ∧ Below w0.heap.size w0 wa) → wa.ownsRow w0.heap.size 3 1 u5 (misTo rows zs ws b k).length ((misTo rows zs ws b k).map (Value.int .i64)) →
          Calls Try.prog 97 #[.agg #[.slice p ws.length q, .int .i64 b], .slice rp (rows.getD k []).length rq] wa fun e w' => e = .returned (.int .i64 (side ws b (rows.getD k []))) ∧ w'.ownsRow w0.heap.size 3 1 u5 (misTo rows zs ws b k).length ((misTo rows zs ws b k).map (Value.int .i64)) ∧ (w'.cell? ⟨w.heap.size, 0, none⟩ = some (.slice (some ⟨bl, off, none⟩) rows.length c) ∧ w'.cell? ⟨w.heap.size, 1, none⟩ = some (.slice (some ⟨lb, lo, none⟩) zs.length c') ∧ w'.cell? ⟨w.heap.size + 1, 0, none⟩ = some (.slice p ws.length q) ∧ w'.cell? ⟨w.heap.size + 1, 1, none⟩ = some (.int .i64 b) ∧ w'.cell? ⟨bl, off + k, none⟩ = some (.slice rp (rows.getD k []).length rq) ∧ w'.cell? ⟨lb, lo + k, none⟩ = some (.int .i64 (zs.getD k 0)) ∧ Below w0.heap.size w0 w') from fun wa hS ho => by
        have hz := hS.2.2.2.2.2.2.size
        have hB := HB.out.trans (hS.2.2.2.2.2.2.mono (by omega))
        refine (spec_side p ws q b rp _ rq wa (HQ.out.below hB) (hrow.below hS.2.2.2.2.2.2) hm (by omega) (by omega) hFk.2).mono ?_
        rintro e w' ⟨rfl, hb⟩
        exact ⟨rfl, ownsRow_block ho (fun g hg => hb.block g (ho.lt g hg).2), cell_below hb hS.1 (by omega), cell_below hb hS.2.1 (by omega), cell_below hb hS.2.2.1 (by omega), cell_below hb hS.2.2.2.1 (by omega), cell_below hb hS.2.2.2.2.1 (by omega), cell_below hb hS.2.2.2.2.2.1 (by omega), hS.2.2.2.2.2.2.trans (hb.mono (by omega))⟩)
      have HO := Lib.hid hown
      have HV := Lib.hid hvb
      have HBl := Lib.hid hbel
      have i1 : (0 : Int) ≤ (k : Int) := by omega
      have i2 : (k : Int) < (rows.length : Int) := by omega
      have i3 : (k : Int) < (zs.length : Int) := by have := HL.out; omega
      clear hown hbel hrow hpq hFk hvb
      cases hm' : isM rows zs ws b k
      · have HM := Lib.hid (misTo_miss rows zs ws b k hm')
        have g1 : (side ws b (rows.getD k []) != zs.getD k 0) = false := hm'
        have hlen := misTo_length rows zs ws b k
        clear hm'
        generalize rows.getD k [] = r at *
        generalize zs.getD k 0 = z at *
        generalize side ws b r = s at *
        generalize misTo rows zs ws b k = ms at *
        go_wp2_with fail
        go_region_held3 (fun w' => w'.cell? ⟨w.heap.size, 0, none⟩ = some (.slice (some ⟨bl, off, none⟩) rows.length c) ∧ w'.cell? ⟨w.heap.size, 1, none⟩ = some (.slice (some ⟨lb, lo, none⟩) zs.length c') ∧ w'.cell? ⟨w.heap.size + 1, 0, none⟩ = some (.slice p ws.length q) ∧ w'.cell? ⟨w.heap.size + 1, 1, none⟩ = some (.int .i64 b) ∧ w'.cell? ⟨bl, off + k, none⟩ = some (.slice rp r.length rq) ∧ w'.cell? ⟨lb, lo + k, none⟩ = some (.int .i64 z) ∧ Below w0.heap.size w0 w') (first | assumption | exact ⟨x0, x1, y0, y1, hc, hlc, HBl.out⟩ | exact ⟨x0, x1, y0, y1, hc, hlc, HBl.out.drew⟩) (first | (go_at_call 97; refine Calls.mono (HT.out _ (by assumption) (by first | exact HO.out | exact HO.out.drew)) ?_; rintro e wq ⟨rfl, hoq, hbx⟩))
        obtain ⟨_, _, _, _, _, _, hbq⟩ := hbx
        have HBq := Lib.hid hbq
        have hzq := hbq.size
        clear hbq
        have HOq := Lib.hid hoq
        clear hoq
        go_wp2_with fail
        go_roundw
        case rel => exact ⟨k + 1, by omega, by go_num, by rw [HM.out]; exact HOq.out, HBq.out⟩
        case measure => simp [intOf]; omega
      · have HM := Lib.hid (misTo_hit rows zs ws b k hm')
        have g1 : (side ws b (rows.getD k []) != zs.getD k 0) = true := hm'
        have hlen := misTo_length rows zs ws b k
        clear hm'
        generalize rows.getD k [] = r at *
        generalize zs.getD k 0 = z at *
        generalize side ws b r = s at *
        generalize misTo rows zs ws b k = ms at *
        go_wp2_with fail
        go_region_held3 (fun w' => w'.cell? ⟨w.heap.size, 0, none⟩ = some (.slice (some ⟨bl, off, none⟩) rows.length c) ∧ w'.cell? ⟨w.heap.size, 1, none⟩ = some (.slice (some ⟨lb, lo, none⟩) zs.length c') ∧ w'.cell? ⟨w.heap.size + 1, 0, none⟩ = some (.slice p ws.length q) ∧ w'.cell? ⟨w.heap.size + 1, 1, none⟩ = some (.int .i64 b) ∧ w'.cell? ⟨bl, off + k, none⟩ = some (.slice rp r.length rq) ∧ w'.cell? ⟨lb, lo + k, none⟩ = some (.int .i64 z) ∧ Below w0.heap.size w0 w') (first | assumption | exact ⟨x0, x1, y0, y1, hc, hlc, HBl.out⟩ | exact ⟨x0, x1, y0, y1, hc, hlc, HBl.out.drew⟩) (first | (go_at_call 97; refine Calls.mono (HT.out _ (by assumption) (by first | exact HO.out | exact HO.out.drew)) ?_; rintro e wq ⟨rfl, hoq, hbx⟩))
        obtain ⟨_, _, _, _, _, _, hbq⟩ := hbx
        have HBq := Lib.hid hbq
        have hzq := hbq.size
        clear hbq
        go_wp2_with (at_builtin; refine wpList_append_own _ rfl _ _ 22 rfl w0.heap.size 3 i0 (.int .i64 0) 1 8 Try.underlying22 hi hz0 hz1 hz2 rfl (by decide) _ _ _ rfl (hoq.alloc _) ⟨wq.heap.size, 0, none⟩ 1 1 [.int .i64 (k : Nat)] rfl rfl (cell_one_new _ _ _) (by simp [Value.oneCell']) (by unfold maxLen; omega) (by omega) (by simp; omega) ?_; intro v' w2 hown' hgrow _)
        obtain ⟨g', cap', hv'⟩ := ownsRow_succ hown'
        subst hv'
        have HO2 := Lib.hid hown'
        have HB2 := Lib.hid ((HBq.out.alloc HBq.out.size _).grown hgrow (Nat.le_trans HBq.out.size (by simp)) (fun g e => (HV.out g e).1))
        clear hoq hown' hgrow
        go_wp2_with fail
        go_roundw
        case rel => exact ⟨k + 1, by omega, by go_num, by rw [HM.out, List.map_append, List.length_append]; exact HO2.out, HB2.out⟩
        case measure => simp [intOf]; omega
    · have hk' : k = rows.length := by omega
      have HF1 := Lib.hid (show intfns.Made (misTo rows zs ws b rows.length) w (.returned u5) wr from by
        refine ⟨u5, rfl, ?_, HB.out.trans (hbel.mono (by omega))⟩
        rw [hk'] at hown
        exact (OwnI.of hown).mono (by omega) (Nat.le_refl _))
      clear hown hbel hvb hk'
      go_wp2_with fail
      go_ret
      exact HF1.out
end Go.Proofs.Ythohnnobahcdpaa.mistakes
