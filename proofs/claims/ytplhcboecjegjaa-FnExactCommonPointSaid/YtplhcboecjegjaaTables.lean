/- The walks of the model's and the program's tables of planes. -/
import Derived.Test.YtplhcboecjegjaaBits
import Derived.Test.YtplhcboecjegjaaPlanes
import Derived.Test.YtplhcboecjegjaaDots
import Derived.Test.YtplhcboecjegjaaGrid
import Derived.Deep.AppendLies
import Derived.Deep.RegionHeld3
import Derived.Deep.DrawnRows
namespace Go.Proofs.Ytplhcboecjegjaa.tables
open Go.RowKit own pp nums planes dots bitw
set_option linter.unusedVariables false
set_option linter.unusedSimpArgs false
attribute [local go_sem ↓] Go.wp_at_zero Go.wp_at_succ

theorem infoInt : (Try.prog.info? 3).map (fun i => (i.zero, i.size, i.bytes)) = some (some (.int .i64 0), 1, 8) := by kernel_rfl
/-- 1 at the bit points with the side 1, and 0 at the others. -/
def bitAt (ws : List Int) (b : Int) (n j : Nat) : Int := if side ws b (bitsTo j n) = 1 then 1 else 0
def tabTo (ws : List Int) (b : Int) (n k : Nat) : List Int := (List.range k).map (bitAt ws b n)
theorem tabTo_length (ws : List Int) (b : Int) (n k : Nat) : (tabTo ws b n k).length = k := by simp [tabTo]
theorem tabTo_succ (ws : List Int) (b : Int) (n k : Nat) : tabTo ws b n (k + 1) = tabTo ws b n k ++ [bitAt ws b n k] := by simp [tabTo, List.range_succ]
theorem side_cases (ws : List Int) (b : Int) (xs : List Int) : side ws b xs = 1 ∨ side ws b xs = -1 := by unfold side; split <;> simp
theorem bits_small {ws : List Int} (h : numsB 99 ws = true) (j n : Nat) (hl : ws.length = n) : Small ws (bitsTo j n) := by
  intro k hk
  have h1 := numsB_at h k hk
  have h2 : 0 ≤ (bitsTo j n).getD k 0 ∧ (bitsTo j n).getD k 0 ≤ 1 := by
    rw [List.getD_eq_getElem?_getD]
    have : k < n := by omega
    simp only [bitsTo, List.getElem?_map, List.getElem?_range this, Option.map_some, Option.getD_some]
    omega
  have := mul_bd (A := 99) (B := 1) (x := ws.getD k 0) (y := (bitsTo j n).getD k 0) (by omega) (by omega) (by omega) (by omega)
  omega
/-- The first k numbers of the table, then zeros. -/
def filled (ws : List Int) (b : Int) (n m k : Nat) : List Value := (tabTo ws b n k).map (Value.int .i64) ++ List.replicate (m - k) (.int .i64 0)
theorem filled_zero (ws : List Int) (b : Int) (n m : Nat) : filled ws b n m 0 = List.replicate m (.int .i64 0) := by simp [filled, tabTo]
theorem filled_all (ws : List Int) (b : Int) (n m : Nat) : filled ws b n m m = (tabTo ws b n m).map (Value.int .i64) := by simp [filled]
theorem filled_one {ws : List Int} {b : Int} {n m k : Nat} (h : k < m) (h1 : bitAt ws b n k = 1) : (filled ws b n m k).set k (.int .i64 1) = filled ws b n m (k + 1) := by
  unfold filled
  rw [List.set_append, if_neg (by simp [tabTo_length]), show m - k = (m - (k + 1)) + 1 by omega, List.replicate_succ, List.length_map, tabTo_length, Nat.sub_self, List.set_cons_zero, tabTo_succ, List.map_append, List.append_assoc, h1]
  rfl
theorem filled_nil {ws : List Int} {b : Int} {n m k : Nat} (h : k < m) (h1 : bitAt ws b n k = 0) : filled ws b n m k = filled ws b n m (k + 1) := by
  unfold filled
  rw [show m - k = (m - (k + 1)) + 1 by omega, List.replicate_succ, tabTo_succ, List.map_append, List.append_assoc, h1]
  rfl
theorem filled_at (ws : List Int) (b : Int) (n m k : Nat) (h : k < m) : (filled ws b n m k)[k]? = some (.int .i64 0) := by
  unfold filled
  rw [List.getElem?_append_right (by simp [tabTo_length]), List.getElem?_replicate, if_pos (by simp [tabTo_length]; omega)]
set_option maxRecDepth 100000 in
set_option maxHeartbeats 4000000 in
theorem spec_table_1 (p : Option Addr) (ws : List Int) (q : Nat) (b : Int) (w : World) (hq : ints.Reads .i64 w p ws) (hl : ws.length = 1) (hA : numsB 99 ws = true) :
    Calls Try.prog 93 #[.int .i64 1, .agg #[.slice p ws.length q, .int .i64 b]] w (intfns.Made (tabTo ws b 1 2) w) := by
  obtain ⟨i0, hi, hz0, hz1, hz2⟩ := info_parts infoInt
  have HQ := Lib.hid hq
  have HL := Lib.hid hl
  have HA := Lib.hid hA
  clear hq hA hl
  have y0 : (w.alloc (.cells #[.slice p ws.length q, .int .i64 b] 63)).cell? ⟨w.heap.size, 0, none⟩ = some (.slice p ws.length q) := cell_new _ _ _ rfl rfl
  have y1 : (w.alloc (.cells #[.slice p ws.length q, .int .i64 b] 63)).cell? ⟨w.heap.size, 1, none⟩ = some (.int .i64 b) := cell_new _ _ _ rfl rfl
  have HB := Lib.hid (below_alloc w (.cells #[.slice p ws.length q, .int .i64 b] 63))
  have s0 : w.heap.size + 1 ≤ (w.alloc (.cells #[.slice p ws.length q, .int .i64 b] 63)).heap.size := by simp
  generalize hw : (w.alloc (.cells #[.slice p ws.length q, .int .i64 b] 63)) = w0 at *
  have HW := Lib.hid hw
  clear hw
  go_enter Try.func93, Try.ntmps93
  go_wp2_with fail
  rw [HW.out, show w.heap.size + 1 = w0.heap.size from by rw [← HW.out]; simp]
  have hown0 := (own_empty w0).1
  have hb0 := below_alloc w0 (.cells #[] 3)
  go_loopw [5, 6] (fun v i wr => ∃ (k : Nat), k ≤ 2 ∧ i = .int .i64 k ∧ wr.ownsRow w0.heap.size 3 1 v k ((tabTo ws b 1 k).map (Value.int .i64)) ∧ Below w0.heap.size w0 wr) (fun _ i _ => 2 - (intOf i).toNat)
  case atStart => exact ⟨0, Nat.zero_le _, rfl, hown0, hb0⟩
  case round =>
    obtain ⟨k, hk, rfl, hown, hbel⟩ := hrel
    have hvb := hown.lt
    clear hown0 hb0
    replace y0 := cell_below hbel y0 (by omega)
    replace y1 := cell_below hbel y1 (by omega)
    have hsz := hbel.size
    by_cases hlt : k < 2
    · have HSn := Lib.hid (tabTo_succ ws b 1 k)
      have HT0 := Lib.hid (show ∀ wa : World, (wa.cell? ⟨w.heap.size, 0, none⟩ = some (.slice p ws.length q) ∧ wa.cell? ⟨w.heap.size, 1, none⟩ = some (.int .i64 b) ∧ Below w0.heap.size w0 wa) → wa.ownsRow w0.heap.size 3 1 u5 k ((tabTo ws b 1 k).map (Value.int .i64)) → Calls Try.prog 83 #[.int .i64 1, .int .i64 k] wa fun e w' => ∃ (qa : Option Addr) (qc : Nat), e = .returned (.slice qa 1 qc) ∧ ints.Reads .i64 w' qa (bitsTo k 1) ∧ w'.ownsRow w0.heap.size 3 1 u5 k ((tabTo ws b 1 k).map (Value.int .i64)) ∧ (w'.cell? ⟨w.heap.size, 0, none⟩ = some (.slice p ws.length q) ∧ w'.cell? ⟨w.heap.size, 1, none⟩ = some (.int .i64 b) ∧ Below w0.heap.size w0 w') from fun wa hS ho => by
        have hwz := hS.2.2.size
        refine (spec_bits 1 k wa (by omega) (by omega)).mono ?_
        rintro e w' ⟨v, rfl, hov, hb⟩
        obtain ⟨qa, qc, rfl, hrd, _, _⟩ := hov.slice
        exact ⟨qa, qc, by rw [bitsTo_length], hrd, ownsRow_block ho (fun g hg => hb.block g (ho.lt g hg).2), cell_below hb hS.1 (by omega), cell_below hb hS.2.1 (by omega), hS.2.2.trans (hb.mono (by omega))⟩)
      have HT1 := Lib.hid (show ∀ (wa : World) (qa : Option Addr) (qc : Nat), (wa.cell? ⟨w.heap.size, 0, none⟩ = some (.slice p ws.length q) ∧ wa.cell? ⟨w.heap.size, 1, none⟩ = some (.int .i64 b) ∧ Below w0.heap.size w0 wa) → ints.Reads .i64 wa qa (bitsTo k 1) → wa.ownsRow w0.heap.size 3 1 u5 k ((tabTo ws b 1 k).map (Value.int .i64)) → Calls Try.prog 155 #[.agg #[.slice p ws.length q, .int .i64 b], .slice qa 1 qc] wa fun e w' => e = .returned (.int .i64 (side ws b (bitsTo k 1))) ∧ w'.ownsRow w0.heap.size 3 1 u5 k ((tabTo ws b 1 k).map (Value.int .i64)) ∧ (w'.cell? ⟨w.heap.size, 0, none⟩ = some (.slice p ws.length q) ∧ w'.cell? ⟨w.heap.size, 1, none⟩ = some (.int .i64 b) ∧ Below w0.heap.size w0 w') from fun wa qa qc hS hrd ho => by
        have hwz := hS.2.2.size
        have hB := HB.out.trans (hS.2.2.mono (by omega))
        have hc := spec_side p ws q b qa (bitsTo k 1) qc wa (HQ.out.below hB) hrd (by have := HL.out; omega) (by rw [bitsTo_length]; have := HL.out; omega) (by rw [bitsTo_length]; omega) (bits_small HA.out k 1 HL.out)
        rw [bitsTo_length] at hc
        refine hc.mono ?_
        rintro e w' ⟨rfl, hb⟩
        exact ⟨rfl, ownsRow_block ho (fun g hg => hb.block g (ho.lt g hg).2), cell_below hb hS.1 (by omega), cell_below hb hS.2.1 (by omega), hS.2.2.trans (hb.mono (by omega))⟩)
      have HO := Lib.hid hown
      have HV := Lib.hid hvb
      have HBl := Lib.hid hbel
      have HBit := Lib.hid (show bitAt ws b 1 k = if side ws b (bitsTo k 1) = 1 then 1 else 0 from rfl)
      have hsd := side_cases ws b (bitsTo k 1)
      clear hown hbel hvb
      generalize side ws b (bitsTo k 1) = s at *
      have i1 : (0 : Int) ≤ (k : Int) := by omega
      rcases hsd with rfl | rfl
      all_goals (
        go_wp2_with fail
        go_region_held3 (fun w' => w'.cell? ⟨w.heap.size, 0, none⟩ = some (.slice p ws.length q) ∧ w'.cell? ⟨w.heap.size, 1, none⟩ = some (.int .i64 b) ∧ Below w0.heap.size w0 w') (first | assumption | exact ⟨y0, y1, HBl.out⟩ | exact ⟨y0, y1, HBl.out.drew⟩ | exact ⟨cell_old _ hbx.1, cell_old _ hbx.2.1, hbx.2.2.alloc hbx.2.2.size _⟩ | exact ⟨hgrow.cell (cell_old _ hbx.1) (fun e => by have := (HV.out _ e.symm).1; simp at this; omega), hgrow.cell (cell_old _ hbx.2.1) (fun e => by have := (HV.out _ e.symm).1; simp at this; omega), (hbx.2.2.alloc hbx.2.2.size _).grown hgrow (Nat.le_trans hbx.2.2.size (by simp)) (fun g e => (HV.out g e).1)⟩) (first | (go_at_call 83; refine Calls.mono (HT0.out _ (by assumption) (by first | exact HO.out | exact HO.out.drew)) ?_; rintro e wp ⟨qa, qc, rfl, hrd, hop, hbp⟩) | (go_at_call 155; refine Calls.mono (HT1.out _ _ _ (by assumption) hrd hop) ?_; rintro e wq ⟨rfl, hoq, hbx⟩) | (refine step_append_lies _ (by rfl) _ _ _ (by rfl) w0.heap.size 3 i0 _ 1 8 Try.underlying22 hi hz0 hz1 hz2 rfl (by omega) u5 k ((tabTo ws b 1 k).map (Value.int .i64)) (by rfl) ((hoq.alloc _).drew) ⟨wq.heap.size, 0, none⟩ 1 1 _ (by rfl) (by rfl) (World.news_of_block (t := 3) (fr := (0, 0)) (heap_alloc_new wq _)) (by simp [Value.oneCell']) (by omega) (by unfold maxLen; omega) (by omega) (Nat.le_trans hbx.2.2.size (by simp)) (wq.heap.size + 1) (by simp) ?_; intro gg cap w1 hown1 hgrow hat hlt'))
        have HB1 := Lib.hid ((hbx.2.2.alloc hbx.2.2.size _).grown hgrow (Nat.le_trans hbx.2.2.size (by simp)) (fun g e => (HV.out g e).1))
        have HO1 := Lib.hid (show w1.ownsRow w0.heap.size 3 1 (.slice (some ⟨gg, 0, none⟩) (k + 1) cap) (k + 1) ((tabTo ws b 1 (k + 1)).map (Value.int .i64)) by rw [HSn.out, List.map_append, HBit.out]; exact hown1)
        clear hown1 hgrow hat hlt'
        go_wp2_with fail
        go_roundw
        case rel => exact ⟨k + 1, by omega, by go_num, HO1.out, HB1.out⟩
        case measure => simp [intOf]; omega)
    · obtain rfl : k = 2 := by omega
      have HF1 := Lib.hid (show intfns.Made (tabTo ws b 1 2) w (.returned u5) wr from ⟨u5, rfl, (OwnI.of (by rw [tabTo_length]; exact hown)).mono (by omega) (Nat.le_refl _), HB.out.trans (hbel.mono (by omega))⟩)
      clear hown hbel hvb
      go_wp2_with fail
      go_ret
      exact HF1.out
set_option maxRecDepth 100000 in
set_option maxHeartbeats 4000000 in
theorem spec_table_2 (p : Option Addr) (ws : List Int) (q : Nat) (b : Int) (w : World) (hq : ints.Reads .i64 w p ws) (hl : ws.length = 2) (hA : numsB 99 ws = true) :
    Calls Try.prog 93 #[.int .i64 2, .agg #[.slice p ws.length q, .int .i64 b]] w (intfns.Made (tabTo ws b 2 4) w) := by
  obtain ⟨i0, hi, hz0, hz1, hz2⟩ := info_parts infoInt
  have HQ := Lib.hid hq
  have HL := Lib.hid hl
  have HA := Lib.hid hA
  clear hq hA hl
  have y0 : (w.alloc (.cells #[.slice p ws.length q, .int .i64 b] 63)).cell? ⟨w.heap.size, 0, none⟩ = some (.slice p ws.length q) := cell_new _ _ _ rfl rfl
  have y1 : (w.alloc (.cells #[.slice p ws.length q, .int .i64 b] 63)).cell? ⟨w.heap.size, 1, none⟩ = some (.int .i64 b) := cell_new _ _ _ rfl rfl
  have HB := Lib.hid (below_alloc w (.cells #[.slice p ws.length q, .int .i64 b] 63))
  have s0 : w.heap.size + 1 ≤ (w.alloc (.cells #[.slice p ws.length q, .int .i64 b] 63)).heap.size := by simp
  generalize hw : (w.alloc (.cells #[.slice p ws.length q, .int .i64 b] 63)) = w0 at *
  have HW := Lib.hid hw
  clear hw
  go_enter Try.func93, Try.ntmps93
  go_wp2_with fail
  rw [HW.out, show w.heap.size + 1 = w0.heap.size from by rw [← HW.out]; simp]
  have hown0 := (own_empty w0).1
  have hb0 := below_alloc w0 (.cells #[] 3)
  go_loopw [5, 6] (fun v i wr => ∃ (k : Nat), k ≤ 4 ∧ i = .int .i64 k ∧ wr.ownsRow w0.heap.size 3 1 v k ((tabTo ws b 2 k).map (Value.int .i64)) ∧ Below w0.heap.size w0 wr) (fun _ i _ => 4 - (intOf i).toNat)
  case atStart => exact ⟨0, Nat.zero_le _, rfl, hown0, hb0⟩
  case round =>
    obtain ⟨k, hk, rfl, hown, hbel⟩ := hrel
    have hvb := hown.lt
    clear hown0 hb0
    replace y0 := cell_below hbel y0 (by omega)
    replace y1 := cell_below hbel y1 (by omega)
    have hsz := hbel.size
    by_cases hlt : k < 4
    · have HSn := Lib.hid (tabTo_succ ws b 2 k)
      have HT0 := Lib.hid (show ∀ wa : World, (wa.cell? ⟨w.heap.size, 0, none⟩ = some (.slice p ws.length q) ∧ wa.cell? ⟨w.heap.size, 1, none⟩ = some (.int .i64 b) ∧ Below w0.heap.size w0 wa) → wa.ownsRow w0.heap.size 3 1 u5 k ((tabTo ws b 2 k).map (Value.int .i64)) → Calls Try.prog 83 #[.int .i64 2, .int .i64 k] wa fun e w' => ∃ (qa : Option Addr) (qc : Nat), e = .returned (.slice qa 2 qc) ∧ ints.Reads .i64 w' qa (bitsTo k 2) ∧ w'.ownsRow w0.heap.size 3 1 u5 k ((tabTo ws b 2 k).map (Value.int .i64)) ∧ (w'.cell? ⟨w.heap.size, 0, none⟩ = some (.slice p ws.length q) ∧ w'.cell? ⟨w.heap.size, 1, none⟩ = some (.int .i64 b) ∧ Below w0.heap.size w0 w') from fun wa hS ho => by
        have hwz := hS.2.2.size
        refine (spec_bits 2 k wa (by omega) (by omega)).mono ?_
        rintro e w' ⟨v, rfl, hov, hb⟩
        obtain ⟨qa, qc, rfl, hrd, _, _⟩ := hov.slice
        exact ⟨qa, qc, by rw [bitsTo_length], hrd, ownsRow_block ho (fun g hg => hb.block g (ho.lt g hg).2), cell_below hb hS.1 (by omega), cell_below hb hS.2.1 (by omega), hS.2.2.trans (hb.mono (by omega))⟩)
      have HT1 := Lib.hid (show ∀ (wa : World) (qa : Option Addr) (qc : Nat), (wa.cell? ⟨w.heap.size, 0, none⟩ = some (.slice p ws.length q) ∧ wa.cell? ⟨w.heap.size, 1, none⟩ = some (.int .i64 b) ∧ Below w0.heap.size w0 wa) → ints.Reads .i64 wa qa (bitsTo k 2) → wa.ownsRow w0.heap.size 3 1 u5 k ((tabTo ws b 2 k).map (Value.int .i64)) → Calls Try.prog 155 #[.agg #[.slice p ws.length q, .int .i64 b], .slice qa 2 qc] wa fun e w' => e = .returned (.int .i64 (side ws b (bitsTo k 2))) ∧ w'.ownsRow w0.heap.size 3 1 u5 k ((tabTo ws b 2 k).map (Value.int .i64)) ∧ (w'.cell? ⟨w.heap.size, 0, none⟩ = some (.slice p ws.length q) ∧ w'.cell? ⟨w.heap.size, 1, none⟩ = some (.int .i64 b) ∧ Below w0.heap.size w0 w') from fun wa qa qc hS hrd ho => by
        have hwz := hS.2.2.size
        have hB := HB.out.trans (hS.2.2.mono (by omega))
        have hc := spec_side p ws q b qa (bitsTo k 2) qc wa (HQ.out.below hB) hrd (by have := HL.out; omega) (by rw [bitsTo_length]; have := HL.out; omega) (by rw [bitsTo_length]; omega) (bits_small HA.out k 2 HL.out)
        rw [bitsTo_length] at hc
        refine hc.mono ?_
        rintro e w' ⟨rfl, hb⟩
        exact ⟨rfl, ownsRow_block ho (fun g hg => hb.block g (ho.lt g hg).2), cell_below hb hS.1 (by omega), cell_below hb hS.2.1 (by omega), hS.2.2.trans (hb.mono (by omega))⟩)
      have HO := Lib.hid hown
      have HV := Lib.hid hvb
      have HBl := Lib.hid hbel
      have HBit := Lib.hid (show bitAt ws b 2 k = if side ws b (bitsTo k 2) = 1 then 1 else 0 from rfl)
      have hsd := side_cases ws b (bitsTo k 2)
      clear hown hbel hvb
      generalize side ws b (bitsTo k 2) = s at *
      have i1 : (0 : Int) ≤ (k : Int) := by omega
      rcases hsd with rfl | rfl
      all_goals (
        go_wp2_with fail
        go_region_held3 (fun w' => w'.cell? ⟨w.heap.size, 0, none⟩ = some (.slice p ws.length q) ∧ w'.cell? ⟨w.heap.size, 1, none⟩ = some (.int .i64 b) ∧ Below w0.heap.size w0 w') (first | assumption | exact ⟨y0, y1, HBl.out⟩ | exact ⟨y0, y1, HBl.out.drew⟩ | exact ⟨cell_old _ hbx.1, cell_old _ hbx.2.1, hbx.2.2.alloc hbx.2.2.size _⟩ | exact ⟨hgrow.cell (cell_old _ hbx.1) (fun e => by have := (HV.out _ e.symm).1; simp at this; omega), hgrow.cell (cell_old _ hbx.2.1) (fun e => by have := (HV.out _ e.symm).1; simp at this; omega), (hbx.2.2.alloc hbx.2.2.size _).grown hgrow (Nat.le_trans hbx.2.2.size (by simp)) (fun g e => (HV.out g e).1)⟩) (first | (go_at_call 83; refine Calls.mono (HT0.out _ (by assumption) (by first | exact HO.out | exact HO.out.drew)) ?_; rintro e wp ⟨qa, qc, rfl, hrd, hop, hbp⟩) | (go_at_call 155; refine Calls.mono (HT1.out _ _ _ (by assumption) hrd hop) ?_; rintro e wq ⟨rfl, hoq, hbx⟩) | (refine step_append_lies _ (by rfl) _ _ _ (by rfl) w0.heap.size 3 i0 _ 1 8 Try.underlying22 hi hz0 hz1 hz2 rfl (by omega) u5 k ((tabTo ws b 2 k).map (Value.int .i64)) (by rfl) ((hoq.alloc _).drew) ⟨wq.heap.size, 0, none⟩ 1 1 _ (by rfl) (by rfl) (World.news_of_block (t := 3) (fr := (0, 0)) (heap_alloc_new wq _)) (by simp [Value.oneCell']) (by omega) (by unfold maxLen; omega) (by omega) (Nat.le_trans hbx.2.2.size (by simp)) (wq.heap.size + 1) (by simp) ?_; intro gg cap w1 hown1 hgrow hat hlt'))
        have HB1 := Lib.hid ((hbx.2.2.alloc hbx.2.2.size _).grown hgrow (Nat.le_trans hbx.2.2.size (by simp)) (fun g e => (HV.out g e).1))
        have HO1 := Lib.hid (show w1.ownsRow w0.heap.size 3 1 (.slice (some ⟨gg, 0, none⟩) (k + 1) cap) (k + 1) ((tabTo ws b 2 (k + 1)).map (Value.int .i64)) by rw [HSn.out, List.map_append, HBit.out]; exact hown1)
        clear hown1 hgrow hat hlt'
        go_wp2_with fail
        go_roundw
        case rel => exact ⟨k + 1, by omega, by go_num, HO1.out, HB1.out⟩
        case measure => simp [intOf]; omega)
    · obtain rfl : k = 4 := by omega
      have HF1 := Lib.hid (show intfns.Made (tabTo ws b 2 4) w (.returned u5) wr from ⟨u5, rfl, (OwnI.of (by rw [tabTo_length]; exact hown)).mono (by omega) (Nat.le_refl _), HB.out.trans (hbel.mono (by omega))⟩)
      clear hown hbel hvb
      go_wp2_with fail
      go_ret
      exact HF1.out
set_option maxRecDepth 100000 in
set_option maxHeartbeats 4000000 in
theorem spec_table_3 (p : Option Addr) (ws : List Int) (q : Nat) (b : Int) (w : World) (hq : ints.Reads .i64 w p ws) (hl : ws.length = 3) (hA : numsB 99 ws = true) :
    Calls Try.prog 93 #[.int .i64 3, .agg #[.slice p ws.length q, .int .i64 b]] w (intfns.Made (tabTo ws b 3 8) w) := by
  obtain ⟨i0, hi, hz0, hz1, hz2⟩ := info_parts infoInt
  have HQ := Lib.hid hq
  have HL := Lib.hid hl
  have HA := Lib.hid hA
  clear hq hA hl
  have y0 : (w.alloc (.cells #[.slice p ws.length q, .int .i64 b] 63)).cell? ⟨w.heap.size, 0, none⟩ = some (.slice p ws.length q) := cell_new _ _ _ rfl rfl
  have y1 : (w.alloc (.cells #[.slice p ws.length q, .int .i64 b] 63)).cell? ⟨w.heap.size, 1, none⟩ = some (.int .i64 b) := cell_new _ _ _ rfl rfl
  have HB := Lib.hid (below_alloc w (.cells #[.slice p ws.length q, .int .i64 b] 63))
  have s0 : w.heap.size + 1 ≤ (w.alloc (.cells #[.slice p ws.length q, .int .i64 b] 63)).heap.size := by simp
  generalize hw : (w.alloc (.cells #[.slice p ws.length q, .int .i64 b] 63)) = w0 at *
  have HW := Lib.hid hw
  clear hw
  go_enter Try.func93, Try.ntmps93
  go_wp2_with fail
  rw [HW.out, show w.heap.size + 1 = w0.heap.size from by rw [← HW.out]; simp]
  have hown0 := (own_empty w0).1
  have hb0 := below_alloc w0 (.cells #[] 3)
  go_loopw [5, 6] (fun v i wr => ∃ (k : Nat), k ≤ 8 ∧ i = .int .i64 k ∧ wr.ownsRow w0.heap.size 3 1 v k ((tabTo ws b 3 k).map (Value.int .i64)) ∧ Below w0.heap.size w0 wr) (fun _ i _ => 8 - (intOf i).toNat)
  case atStart => exact ⟨0, Nat.zero_le _, rfl, hown0, hb0⟩
  case round =>
    obtain ⟨k, hk, rfl, hown, hbel⟩ := hrel
    have hvb := hown.lt
    clear hown0 hb0
    replace y0 := cell_below hbel y0 (by omega)
    replace y1 := cell_below hbel y1 (by omega)
    have hsz := hbel.size
    by_cases hlt : k < 8
    · have HSn := Lib.hid (tabTo_succ ws b 3 k)
      have HT0 := Lib.hid (show ∀ wa : World, (wa.cell? ⟨w.heap.size, 0, none⟩ = some (.slice p ws.length q) ∧ wa.cell? ⟨w.heap.size, 1, none⟩ = some (.int .i64 b) ∧ Below w0.heap.size w0 wa) → wa.ownsRow w0.heap.size 3 1 u5 k ((tabTo ws b 3 k).map (Value.int .i64)) → Calls Try.prog 83 #[.int .i64 3, .int .i64 k] wa fun e w' => ∃ (qa : Option Addr) (qc : Nat), e = .returned (.slice qa 3 qc) ∧ ints.Reads .i64 w' qa (bitsTo k 3) ∧ w'.ownsRow w0.heap.size 3 1 u5 k ((tabTo ws b 3 k).map (Value.int .i64)) ∧ (w'.cell? ⟨w.heap.size, 0, none⟩ = some (.slice p ws.length q) ∧ w'.cell? ⟨w.heap.size, 1, none⟩ = some (.int .i64 b) ∧ Below w0.heap.size w0 w') from fun wa hS ho => by
        have hwz := hS.2.2.size
        refine (spec_bits 3 k wa (by omega) (by omega)).mono ?_
        rintro e w' ⟨v, rfl, hov, hb⟩
        obtain ⟨qa, qc, rfl, hrd, _, _⟩ := hov.slice
        exact ⟨qa, qc, by rw [bitsTo_length], hrd, ownsRow_block ho (fun g hg => hb.block g (ho.lt g hg).2), cell_below hb hS.1 (by omega), cell_below hb hS.2.1 (by omega), hS.2.2.trans (hb.mono (by omega))⟩)
      have HT1 := Lib.hid (show ∀ (wa : World) (qa : Option Addr) (qc : Nat), (wa.cell? ⟨w.heap.size, 0, none⟩ = some (.slice p ws.length q) ∧ wa.cell? ⟨w.heap.size, 1, none⟩ = some (.int .i64 b) ∧ Below w0.heap.size w0 wa) → ints.Reads .i64 wa qa (bitsTo k 3) → wa.ownsRow w0.heap.size 3 1 u5 k ((tabTo ws b 3 k).map (Value.int .i64)) → Calls Try.prog 155 #[.agg #[.slice p ws.length q, .int .i64 b], .slice qa 3 qc] wa fun e w' => e = .returned (.int .i64 (side ws b (bitsTo k 3))) ∧ w'.ownsRow w0.heap.size 3 1 u5 k ((tabTo ws b 3 k).map (Value.int .i64)) ∧ (w'.cell? ⟨w.heap.size, 0, none⟩ = some (.slice p ws.length q) ∧ w'.cell? ⟨w.heap.size, 1, none⟩ = some (.int .i64 b) ∧ Below w0.heap.size w0 w') from fun wa qa qc hS hrd ho => by
        have hwz := hS.2.2.size
        have hB := HB.out.trans (hS.2.2.mono (by omega))
        have hc := spec_side p ws q b qa (bitsTo k 3) qc wa (HQ.out.below hB) hrd (by have := HL.out; omega) (by rw [bitsTo_length]; have := HL.out; omega) (by rw [bitsTo_length]; omega) (bits_small HA.out k 3 HL.out)
        rw [bitsTo_length] at hc
        refine hc.mono ?_
        rintro e w' ⟨rfl, hb⟩
        exact ⟨rfl, ownsRow_block ho (fun g hg => hb.block g (ho.lt g hg).2), cell_below hb hS.1 (by omega), cell_below hb hS.2.1 (by omega), hS.2.2.trans (hb.mono (by omega))⟩)
      have HO := Lib.hid hown
      have HV := Lib.hid hvb
      have HBl := Lib.hid hbel
      have HBit := Lib.hid (show bitAt ws b 3 k = if side ws b (bitsTo k 3) = 1 then 1 else 0 from rfl)
      have hsd := side_cases ws b (bitsTo k 3)
      clear hown hbel hvb
      generalize side ws b (bitsTo k 3) = s at *
      have i1 : (0 : Int) ≤ (k : Int) := by omega
      rcases hsd with rfl | rfl
      all_goals (
        go_wp2_with fail
        go_region_held3 (fun w' => w'.cell? ⟨w.heap.size, 0, none⟩ = some (.slice p ws.length q) ∧ w'.cell? ⟨w.heap.size, 1, none⟩ = some (.int .i64 b) ∧ Below w0.heap.size w0 w') (first | assumption | exact ⟨y0, y1, HBl.out⟩ | exact ⟨y0, y1, HBl.out.drew⟩ | exact ⟨cell_old _ hbx.1, cell_old _ hbx.2.1, hbx.2.2.alloc hbx.2.2.size _⟩ | exact ⟨hgrow.cell (cell_old _ hbx.1) (fun e => by have := (HV.out _ e.symm).1; simp at this; omega), hgrow.cell (cell_old _ hbx.2.1) (fun e => by have := (HV.out _ e.symm).1; simp at this; omega), (hbx.2.2.alloc hbx.2.2.size _).grown hgrow (Nat.le_trans hbx.2.2.size (by simp)) (fun g e => (HV.out g e).1)⟩) (first | (go_at_call 83; refine Calls.mono (HT0.out _ (by assumption) (by first | exact HO.out | exact HO.out.drew)) ?_; rintro e wp ⟨qa, qc, rfl, hrd, hop, hbp⟩) | (go_at_call 155; refine Calls.mono (HT1.out _ _ _ (by assumption) hrd hop) ?_; rintro e wq ⟨rfl, hoq, hbx⟩) | (refine step_append_lies _ (by rfl) _ _ _ (by rfl) w0.heap.size 3 i0 _ 1 8 Try.underlying22 hi hz0 hz1 hz2 rfl (by omega) u5 k ((tabTo ws b 3 k).map (Value.int .i64)) (by rfl) ((hoq.alloc _).drew) ⟨wq.heap.size, 0, none⟩ 1 1 _ (by rfl) (by rfl) (World.news_of_block (t := 3) (fr := (0, 0)) (heap_alloc_new wq _)) (by simp [Value.oneCell']) (by omega) (by unfold maxLen; omega) (by omega) (Nat.le_trans hbx.2.2.size (by simp)) (wq.heap.size + 1) (by simp) ?_; intro gg cap w1 hown1 hgrow hat hlt'))
        have HB1 := Lib.hid ((hbx.2.2.alloc hbx.2.2.size _).grown hgrow (Nat.le_trans hbx.2.2.size (by simp)) (fun g e => (HV.out g e).1))
        have HO1 := Lib.hid (show w1.ownsRow w0.heap.size 3 1 (.slice (some ⟨gg, 0, none⟩) (k + 1) cap) (k + 1) ((tabTo ws b 3 (k + 1)).map (Value.int .i64)) by rw [HSn.out, List.map_append, HBit.out]; exact hown1)
        clear hown1 hgrow hat hlt'
        go_wp2_with fail
        go_roundw
        case rel => exact ⟨k + 1, by omega, by go_num, HO1.out, HB1.out⟩
        case measure => simp [intOf]; omega)
    · obtain rfl : k = 8 := by omega
      have HF1 := Lib.hid (show intfns.Made (tabTo ws b 3 8) w (.returned u5) wr from ⟨u5, rfl, (OwnI.of (by rw [tabTo_length]; exact hown)).mono (by omega) (Nat.le_refl _), HB.out.trans (hbel.mono (by omega))⟩)
      clear hown hbel hvb
      go_wp2_with fail
      go_ret
      exact HF1.out
set_option maxRecDepth 100000 in
set_option maxHeartbeats 4000000 in
theorem spec_table_4 (p : Option Addr) (ws : List Int) (q : Nat) (b : Int) (w : World) (hq : ints.Reads .i64 w p ws) (hl : ws.length = 4) (hA : numsB 99 ws = true) :
    Calls Try.prog 93 #[.int .i64 4, .agg #[.slice p ws.length q, .int .i64 b]] w (intfns.Made (tabTo ws b 4 16) w) := by
  obtain ⟨i0, hi, hz0, hz1, hz2⟩ := info_parts infoInt
  have HQ := Lib.hid hq
  have HL := Lib.hid hl
  have HA := Lib.hid hA
  clear hq hA hl
  have y0 : (w.alloc (.cells #[.slice p ws.length q, .int .i64 b] 63)).cell? ⟨w.heap.size, 0, none⟩ = some (.slice p ws.length q) := cell_new _ _ _ rfl rfl
  have y1 : (w.alloc (.cells #[.slice p ws.length q, .int .i64 b] 63)).cell? ⟨w.heap.size, 1, none⟩ = some (.int .i64 b) := cell_new _ _ _ rfl rfl
  have HB := Lib.hid (below_alloc w (.cells #[.slice p ws.length q, .int .i64 b] 63))
  have s0 : w.heap.size + 1 ≤ (w.alloc (.cells #[.slice p ws.length q, .int .i64 b] 63)).heap.size := by simp
  generalize hw : (w.alloc (.cells #[.slice p ws.length q, .int .i64 b] 63)) = w0 at *
  have HW := Lib.hid hw
  clear hw
  go_enter Try.func93, Try.ntmps93
  go_wp2_with fail
  rw [HW.out, show w.heap.size + 1 = w0.heap.size from by rw [← HW.out]; simp]
  have hown0 := (own_empty w0).1
  have hb0 := below_alloc w0 (.cells #[] 3)
  go_loopw [5, 6] (fun v i wr => ∃ (k : Nat), k ≤ 16 ∧ i = .int .i64 k ∧ wr.ownsRow w0.heap.size 3 1 v k ((tabTo ws b 4 k).map (Value.int .i64)) ∧ Below w0.heap.size w0 wr) (fun _ i _ => 16 - (intOf i).toNat)
  case atStart => exact ⟨0, Nat.zero_le _, rfl, hown0, hb0⟩
  case round =>
    obtain ⟨k, hk, rfl, hown, hbel⟩ := hrel
    have hvb := hown.lt
    clear hown0 hb0
    replace y0 := cell_below hbel y0 (by omega)
    replace y1 := cell_below hbel y1 (by omega)
    have hsz := hbel.size
    by_cases hlt : k < 16
    · have HSn := Lib.hid (tabTo_succ ws b 4 k)
      have HT0 := Lib.hid (show ∀ wa : World, (wa.cell? ⟨w.heap.size, 0, none⟩ = some (.slice p ws.length q) ∧ wa.cell? ⟨w.heap.size, 1, none⟩ = some (.int .i64 b) ∧ Below w0.heap.size w0 wa) → wa.ownsRow w0.heap.size 3 1 u5 k ((tabTo ws b 4 k).map (Value.int .i64)) → Calls Try.prog 83 #[.int .i64 4, .int .i64 k] wa fun e w' => ∃ (qa : Option Addr) (qc : Nat), e = .returned (.slice qa 4 qc) ∧ ints.Reads .i64 w' qa (bitsTo k 4) ∧ w'.ownsRow w0.heap.size 3 1 u5 k ((tabTo ws b 4 k).map (Value.int .i64)) ∧ (w'.cell? ⟨w.heap.size, 0, none⟩ = some (.slice p ws.length q) ∧ w'.cell? ⟨w.heap.size, 1, none⟩ = some (.int .i64 b) ∧ Below w0.heap.size w0 w') from fun wa hS ho => by
        have hwz := hS.2.2.size
        refine (spec_bits 4 k wa (by omega) (by omega)).mono ?_
        rintro e w' ⟨v, rfl, hov, hb⟩
        obtain ⟨qa, qc, rfl, hrd, _, _⟩ := hov.slice
        exact ⟨qa, qc, by rw [bitsTo_length], hrd, ownsRow_block ho (fun g hg => hb.block g (ho.lt g hg).2), cell_below hb hS.1 (by omega), cell_below hb hS.2.1 (by omega), hS.2.2.trans (hb.mono (by omega))⟩)
      have HT1 := Lib.hid (show ∀ (wa : World) (qa : Option Addr) (qc : Nat), (wa.cell? ⟨w.heap.size, 0, none⟩ = some (.slice p ws.length q) ∧ wa.cell? ⟨w.heap.size, 1, none⟩ = some (.int .i64 b) ∧ Below w0.heap.size w0 wa) → ints.Reads .i64 wa qa (bitsTo k 4) → wa.ownsRow w0.heap.size 3 1 u5 k ((tabTo ws b 4 k).map (Value.int .i64)) → Calls Try.prog 155 #[.agg #[.slice p ws.length q, .int .i64 b], .slice qa 4 qc] wa fun e w' => e = .returned (.int .i64 (side ws b (bitsTo k 4))) ∧ w'.ownsRow w0.heap.size 3 1 u5 k ((tabTo ws b 4 k).map (Value.int .i64)) ∧ (w'.cell? ⟨w.heap.size, 0, none⟩ = some (.slice p ws.length q) ∧ w'.cell? ⟨w.heap.size, 1, none⟩ = some (.int .i64 b) ∧ Below w0.heap.size w0 w') from fun wa qa qc hS hrd ho => by
        have hwz := hS.2.2.size
        have hB := HB.out.trans (hS.2.2.mono (by omega))
        have hc := spec_side p ws q b qa (bitsTo k 4) qc wa (HQ.out.below hB) hrd (by have := HL.out; omega) (by rw [bitsTo_length]; have := HL.out; omega) (by rw [bitsTo_length]; omega) (bits_small HA.out k 4 HL.out)
        rw [bitsTo_length] at hc
        refine hc.mono ?_
        rintro e w' ⟨rfl, hb⟩
        exact ⟨rfl, ownsRow_block ho (fun g hg => hb.block g (ho.lt g hg).2), cell_below hb hS.1 (by omega), cell_below hb hS.2.1 (by omega), hS.2.2.trans (hb.mono (by omega))⟩)
      have HO := Lib.hid hown
      have HV := Lib.hid hvb
      have HBl := Lib.hid hbel
      have HBit := Lib.hid (show bitAt ws b 4 k = if side ws b (bitsTo k 4) = 1 then 1 else 0 from rfl)
      have hsd := side_cases ws b (bitsTo k 4)
      clear hown hbel hvb
      generalize side ws b (bitsTo k 4) = s at *
      have i1 : (0 : Int) ≤ (k : Int) := by omega
      rcases hsd with rfl | rfl
      all_goals (
        go_wp2_with fail
        go_region_held3 (fun w' => w'.cell? ⟨w.heap.size, 0, none⟩ = some (.slice p ws.length q) ∧ w'.cell? ⟨w.heap.size, 1, none⟩ = some (.int .i64 b) ∧ Below w0.heap.size w0 w') (first | assumption | exact ⟨y0, y1, HBl.out⟩ | exact ⟨y0, y1, HBl.out.drew⟩ | exact ⟨cell_old _ hbx.1, cell_old _ hbx.2.1, hbx.2.2.alloc hbx.2.2.size _⟩ | exact ⟨hgrow.cell (cell_old _ hbx.1) (fun e => by have := (HV.out _ e.symm).1; simp at this; omega), hgrow.cell (cell_old _ hbx.2.1) (fun e => by have := (HV.out _ e.symm).1; simp at this; omega), (hbx.2.2.alloc hbx.2.2.size _).grown hgrow (Nat.le_trans hbx.2.2.size (by simp)) (fun g e => (HV.out g e).1)⟩) (first | (go_at_call 83; refine Calls.mono (HT0.out _ (by assumption) (by first | exact HO.out | exact HO.out.drew)) ?_; rintro e wp ⟨qa, qc, rfl, hrd, hop, hbp⟩) | (go_at_call 155; refine Calls.mono (HT1.out _ _ _ (by assumption) hrd hop) ?_; rintro e wq ⟨rfl, hoq, hbx⟩) | (refine step_append_lies _ (by rfl) _ _ _ (by rfl) w0.heap.size 3 i0 _ 1 8 Try.underlying22 hi hz0 hz1 hz2 rfl (by omega) u5 k ((tabTo ws b 4 k).map (Value.int .i64)) (by rfl) ((hoq.alloc _).drew) ⟨wq.heap.size, 0, none⟩ 1 1 _ (by rfl) (by rfl) (World.news_of_block (t := 3) (fr := (0, 0)) (heap_alloc_new wq _)) (by simp [Value.oneCell']) (by omega) (by unfold maxLen; omega) (by omega) (Nat.le_trans hbx.2.2.size (by simp)) (wq.heap.size + 1) (by simp) ?_; intro gg cap w1 hown1 hgrow hat hlt'))
        have HB1 := Lib.hid ((hbx.2.2.alloc hbx.2.2.size _).grown hgrow (Nat.le_trans hbx.2.2.size (by simp)) (fun g e => (HV.out g e).1))
        have HO1 := Lib.hid (show w1.ownsRow w0.heap.size 3 1 (.slice (some ⟨gg, 0, none⟩) (k + 1) cap) (k + 1) ((tabTo ws b 4 (k + 1)).map (Value.int .i64)) by rw [HSn.out, List.map_append, HBit.out]; exact hown1)
        clear hown1 hgrow hat hlt'
        go_wp2_with fail
        go_roundw
        case rel => exact ⟨k + 1, by omega, by go_num, HO1.out, HB1.out⟩
        case measure => simp [intOf]; omega)
    · obtain rfl : k = 16 := by omega
      have HF1 := Lib.hid (show intfns.Made (tabTo ws b 4 16) w (.returned u5) wr from ⟨u5, rfl, (OwnI.of (by rw [tabTo_length]; exact hown)).mono (by omega) (Nat.le_refl _), HB.out.trans (hbel.mono (by omega))⟩)
      clear hown hbel hvb
      go_wp2_with fail
      go_ret
      exact HF1.out
end Go.Proofs.Ytplhcboecjegjaa.tables
