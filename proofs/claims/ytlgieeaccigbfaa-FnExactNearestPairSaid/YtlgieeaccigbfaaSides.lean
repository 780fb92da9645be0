/- The walks of the model's and the program's lists of sides. -/
import Derived.Test.YtlgieeaccigbfaaSamplesT
import Derived.Test.YtlgieeaccigbfaaDots
import Derived.Test.YtlgieeaccigbfaaBoth
import Derived.Deep.AppendLies
namespace Go.Proofs.Ytlgieeaccigbfaa.sides
open Go.RowKit own pp nums samplesv dots
set_option linter.unusedVariables false

theorem infoInt : (Try.prog.info? 3).map (fun i => (i.zero, i.size, i.bytes)) = some (some (.int .i64 0), 1, 8) := by kernel_rfl

/-- The sides of the first k points. -/
def sidesTo (rows : List (List Int)) (ws : List Int) (b : Int) (k : Nat) : List Int := (rows.take k).map (side ws b)
theorem sidesTo_length (rows : List (List Int)) (ws : List Int) (b : Int) (k : Nat) (h : k ≤ rows.length) : (sidesTo rows ws b k).length = k := by simp [sidesTo]; omega
theorem sidesTo_succ (rows : List (List Int)) (ws : List Int) (b : Int) (k : Nat) (h : k < rows.length) : sidesTo rows ws b (k + 1) = sidesTo rows ws b k ++ [side ws b (rows.getD k [])] := by
  unfold sidesTo
  rw [take_snoc_getD rows k h, List.map_append]; rfl

/-- All rows are points that a plane's weights fit. -/
def RowsFit (rows : List (List Int)) (ws : List Int) : Prop := ∀ k, k < rows.length → (rows.getD k []).length = ws.length ∧ Small ws (rows.getD k [])

theorem fit_of {rows : List (List Int)} {zs ws : List Int} {b : Int} (h : both.bothB rows zs ws b = true) : RowsFit rows ws ∧ rows.length ≤ 16 := by
  obtain ⟨h1, h2, h3⟩ := (both.bothB_iff _ _ _ _).1 h
  obtain ⟨s1, s2, s3, s4⟩ := (sampleB_iff _ _).1 h1
  refine ⟨fun k hk => ?_, s1⟩
  have hr := all_at _ [] rows s4 k hk
  simp only [Bool.and_eq_true, decide_eq_true_eq] at hr
  have hl : (rows.getD k []).length = ws.length := by rcases h3 with h3 | h3 <;> omega
  exact ⟨hl, small_of ((planeB_iff _ _).1 h2).2.2.1 ((pointB_iff _).1 hr.1).2.2 (by decide) (by omega)⟩

set_option maxRecDepth 100000 in
set_option maxHeartbeats 4000000 in
theorem spec_sides (a : Option Addr) (rows : List (List Int)) (c : Nat) (a' : Option Addr) (zs : List Int) (c' : Nat) (p : Option Addr) (ws : List Int) (q : Nat) (b : Int) (w : World) (hr : grid.Reads w a rows) (hq : ints.Reads .i64 w p ws) (hn : rows.length ≤ 16) (hm : ws.length ≤ 1048576) (hF : RowsFit rows ws) :
    Calls Try.prog 207 #[.agg #[.slice a rows.length c, .slice a' zs.length c'], .agg #[.slice p ws.length q, .int .i64 b]] w (intfns.Made (rows.map (side ws b)) w) := by
  obtain ⟨i0, hi, hz0, hz1, hz2⟩ := info_parts infoInt
  have HR := Lib.hid hr
  have HQ := Lib.hid hq
  have HF := Lib.hid hF
  clear hr hq hF
  have x0 : ((w.alloc (.cells #[.slice a rows.length c, .slice a' zs.length c'] 27)).alloc (.cells #[.slice p ws.length q, .int .i64 b] 31)).cell? ⟨w.heap.size, 0, none⟩ = some (.slice a rows.length c) := cell_old _ (cell_new _ _ _ rfl rfl)
  have y0 : ((w.alloc (.cells #[.slice a rows.length c, .slice a' zs.length c'] 27)).alloc (.cells #[.slice p ws.length q, .int .i64 b] 31)).cell? ⟨w.heap.size + 1, 0, none⟩ = some (.slice p ws.length q) := cell_new _ _ _ (by simp) rfl
  have y1 : ((w.alloc (.cells #[.slice a rows.length c, .slice a' zs.length c'] 27)).alloc (.cells #[.slice p ws.length q, .int .i64 b] 31)).cell? ⟨w.heap.size + 1, 1, none⟩ = some (.int .i64 b) := cell_new _ _ _ (by simp) rfl
  have HB := Lib.hid ((below_alloc w (.cells #[.slice a rows.length c, .slice a' zs.length c'] 27)).alloc (by simp) (.cells #[.slice p ws.length q, .int .i64 b] 31))
  have s0 : w.heap.size + 2 ≤ ((w.alloc (.cells #[.slice a rows.length c, .slice a' zs.length c'] 27)).alloc (.cells #[.slice p ws.length q, .int .i64 b] 31)).heap.size := by simp
  generalize hw : (w.alloc (.cells #[.slice a rows.length c, .slice a' zs.length c'] 27)).alloc (.cells #[.slice p ws.length q, .int .i64 b] 31) = w0 at *
  have HW := Lib.hid hw
  clear hw
  go_enter Try.func207, Try.ntmps207
  go_wp2_with fail
  rw [HW.out, show w.heap.size + 1 + 1 = w0.heap.size from by rw [← HW.out]; simp]
  have hown0 := World.ownsRow_made (base := w0.heap.size) (e := 3) (size := 1) w0 #[] 0 (Nat.le_refl _) (by unfold maxLen; omega) rfl
  have hb0 := below_alloc w0 (.cells #[] 3)
  go_loopw [5, 6] (fun v i wr => ∃ (k : Nat), k ≤ rows.length ∧ i = .int .i64 k ∧ wr.ownsRow w0.heap.size 3 1 v k ((sidesTo rows ws b k).map (Value.int .i64)) ∧ Below w0.heap.size w0 wr) (fun _ i _ => rows.length - (intOf i).toNat)
  case atStart => exact ⟨0, Nat.zero_le _, rfl, hown0, hb0⟩
  case round =>
    obtain ⟨k, hk, rfl, hown, hbel⟩ := hrel
    have hvb := hown.lt
    clear hown0 hb0
    replace x0 := cell_below hbel x0 (by omega)
    replace y0 := cell_below hbel y0 (by omega)
    replace y1 := cell_below hbel y1 (by omega)
    have hsz := hbel.size
    by_cases hlt : k < rows.length
    · obtain ⟨bl, off, rp, rq, hab, hbl, hc, hpq, hrow⟩ := (HR.out.below HB.out).at hlt
      subst hab
      replace hc := cell_below hbel hc (by omega)
      have hFk := HF.out k hlt
      have HSn := Lib.hid (sidesTo_succ rows ws b k hlt)
      have HT := Lib.hid (show ∀ wa : World, (wa.cell? ⟨w.heap.size, 0, none⟩ = some (.slice (some ⟨bl, off, none⟩) rows.length c) ∧ wa.cell? ⟨w.heap.size + 1, 0, none⟩ = some (.slice p ws.length q) ∧ wa.cell? ⟨w.heap.size + 1, 1, none⟩ = some (.int .i64 b) ∧ wa.cell? ⟨bl, off + k, none⟩ = some (.slice rp (rows.getD k []).length rq) ∧ Below w0.heap.size w0 wa) →
          wa.ownsRow w0.heap.size 3 1 u5 k ((sidesTo rows ws b k).map (Value.int .i64)) →
          Calls Try.prog 211 #[.agg #[.slice p ws.length q, .int .i64 b], .slice rp (rows.getD k []).length rq] wa fun e w' => e = .returned (.int .i64 (side ws b (rows.getD k []))) ∧ w'.ownsRow w0.heap.size 3 1 u5 k ((sidesTo rows ws b k).map (Value.int .i64)) ∧ (w'.cell? ⟨w.heap.size, 0, none⟩ = some (.slice (some ⟨bl, off, none⟩) rows.length c) ∧ w'.cell? ⟨w.heap.size + 1, 0, none⟩ = some (.slice p ws.length q) ∧ w'.cell? ⟨w.heap.size + 1, 1, none⟩ = some (.int .i64 b) ∧ w'.cell? ⟨bl, off + k, none⟩ = some (.slice rp (rows.getD k []).length rq) ∧ Below w0.heap.size w0 w') from fun wa hS ho => by
        have hz := hS.2.2.2.2.size
        have hB := HB.out.trans (hS.2.2.2.2.mono (by omega))
        refine (spec_side p ws q b rp _ rq wa (HQ.out.below hB) (hrow.below hS.2.2.2.2) hm (by omega) (by omega) hFk.2).mono ?_
        rintro e w' ⟨rfl, hb⟩
        exact ⟨rfl, ownsRow_block ho (fun g hg => hb.block g (ho.lt g hg).2), cell_below hb hS.1 (by omega), cell_below hb hS.2.1 (by omega), cell_below hb hS.2.2.1 (by omega), cell_below hb hS.2.2.2.1 (by omega), hS.2.2.2.2.trans (hb.mono (by omega))⟩)
      have HO := Lib.hid hown
      have HV := Lib.hid hvb
      have HBl := Lib.hid hbel
      clear hown hbel hrow hpq hFk hvb
      generalize rows.getD k [] = r at *
      generalize side ws b r = s at *
      have i1 : (0 : Int) ≤ (k : Int) := by omega
      have i2 : (k : Int) < (rows.length : Int) := by omega
      go_wp2_with fail
      go_region_held3 (fun w' => w'.cell? ⟨w.heap.size, 0, none⟩ = some (.slice (some ⟨bl, off, none⟩) rows.length c) ∧ w'.cell? ⟨w.heap.size + 1, 0, none⟩ = some (.slice p ws.length q) ∧ w'.cell? ⟨w.heap.size + 1, 1, none⟩ = some (.int .i64 b) ∧ w'.cell? ⟨bl, off + k, none⟩ = some (.slice rp r.length rq) ∧ Below w0.heap.size w0 w') (first | assumption | exact ⟨x0, y0, y1, hc, HBl.out⟩ | exact ⟨x0, y0, y1, hc, HBl.out.drew⟩ | exact ⟨cell_old _ hbx.1, cell_old _ hbx.2.1, cell_old _ hbx.2.2.1, cell_old _ hbx.2.2.2.1, hbx.2.2.2.2.alloc hbx.2.2.2.2.size _⟩ | exact ⟨hgrow.cell (cell_old _ hbx.1) (fun e => by have := (HV.out _ e.symm).1; simp at this; omega), hgrow.cell (cell_old _ hbx.2.1) (fun e => by have := (HV.out _ e.symm).1; simp at this; omega), hgrow.cell (cell_old _ hbx.2.2.1) (fun e => by have := (HV.out _ e.symm).1; simp at this; omega), hgrow.cell (cell_old _ hbx.2.2.2.1) (fun e => by have := (HV.out _ e.symm).1; simp at this; omega), (hbx.2.2.2.2.alloc hbx.2.2.2.2.size _).grown hgrow (Nat.le_trans hbx.2.2.2.2.size (by simp)) (fun g e => (HV.out g e).1)⟩) (first | (go_at_call 211; refine Calls.mono (HT.out _ (by assumption) (by first | exact HO.out | exact HO.out.drew)) ?_; rintro e wq ⟨rfl, hoq, hbx⟩) | (refine step_append_lies _ (by rfl) _ _ _ (by rfl) w0.heap.size 3 i0 _ 1 8 Try.underlying25 hi hz0 hz1 hz2 rfl (by omega) u5 k ((sidesTo rows ws b k).map (Value.int .i64)) (by rfl) ((hoq.alloc _).drew) ⟨wq.heap.size, 0, none⟩ 1 1 [.int .i64 s] (by rfl) (by rfl) (World.news_of_block (cs := #[.int .i64 s]) (t := 3) (fr := (0, 0)) (heap_alloc_new wq _)) (by simp [Value.oneCell']) (by omega) (by unfold maxLen; omega) (by omega) (Nat.le_trans hbx.2.2.2.2.size (by simp)) (wq.heap.size + 1) (by simp) ?_; intro gg cap w1 hown1 hgrow hat hlt'))
      have HB1 := Lib.hid ((hbx.2.2.2.2.alloc hbx.2.2.2.2.size _).grown hgrow (Nat.le_trans hbx.2.2.2.2.size (by simp)) (fun g e => (HV.out g e).1))
      have HO1 := Lib.hid (show w1.ownsRow w0.heap.size 3 1 (.slice (some ⟨gg, 0, none⟩) (k + 1) cap) (k + 1) ((sidesTo rows ws b (k + 1)).map (Value.int .i64)) by rw [HSn.out, List.map_append]; exact hown1)
      clear hown1 hgrow hat hlt'
      go_wp2_with fail
      go_roundw
      case rel => exact ⟨k + 1, by omega, by go_num, HO1.out, HB1.out⟩
      case measure => simp [intOf]; omega
    · have hk' : k = rows.length := by omega
      have HF1 := Lib.hid (show intfns.Made (rows.map (side ws b)) w (.returned u5) wr from by
        refine ⟨u5, rfl, ?_, HB.out.trans (hbel.mono (by omega))⟩
        have e : sidesTo rows ws b k = rows.map (side ws b) := by unfold sidesTo; rw [hk', List.take_length]
        rw [e] at hown
        exact (OwnI.of (by simpa [hk'] using hown)).mono (by omega) (Nat.le_refl _))
      clear hown hbel hvb hk'
      go_wp2_with fail
      go_ret
      exact HF1.out
end Go.Proofs.Ytlgieeaccigbfaa.sides
