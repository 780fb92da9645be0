/- The walks of the model's and the program's PlaneTable. -/
import Derived.Test.YtplhcboecjegjaaTables
namespace Go.Proofs.Ytplhcboecjegjaa.planetable
open Go.RowKit own pp nums planes dots bitw tables
set_option linter.unusedVariables false
set_option linter.unusedSimpArgs false
attribute [local go_sem ↓] Go.wp_at_zero Go.wp_at_succ

/-- The table of a plane. -/
def tab (ws : List Int) (b : Int) : List Int := tabTo ws b ws.length (2 ^ ws.length)
theorem tab_at {ws : List Int} {b : Int} {n : Nat} (h : ws.length = n) : tab ws b = tabTo ws b n (2 ^ n) := by unfold tab; rw [h]
theorem len_cases {ws : List Int} {b : Int} (h : planeB ws b = true) : ws.length = 1 ∨ ws.length = 2 ∨ ws.length = 3 ∨ ws.length = 4 := by
  obtain ⟨h1, h2, _, _⟩ := (planeB_iff _ _).1 h
  omega
set_option maxHeartbeats 1000000 in
theorem impl_no (p : Option Addr) (ws : List Int) (q : Nat) (b : Int) (w : World) (hq : ints.Reads .i64 w p ws) (hn : ws.length ≤ 1048576) (h : Hid (planeB ws b = false)) :
    Calls Try.prog 144 #[.agg #[.slice p ws.length q, .int .i64 b]] w (RetIB [] false w) := by
  have Hhq := Lib.hid hq
  clear hq
  go_enter Try.func144, Try.ntmps144
  go_wp2_with fail
  have x0_0 : (w.alloc (.cells #[.slice p ws.length q, .int .i64 b] 63)).cell? ⟨w.heap.size, 0, none⟩ = some (.slice p ws.length q) := cell_new _ _ _ (by simp) rfl
  have x0_1 : (w.alloc (.cells #[.slice p ws.length q, .int .i64 b] 63)).cell? ⟨w.heap.size, 1, none⟩ = some (.int .i64 b) := cell_new _ _ _ (by simp) rfl
  have HB0 := Lib.hid (below_alloc w (.cells #[.slice p ws.length q, .int .i64 b] 63))
  have s0 : w.heap.size + 1 ≤ (w.alloc (.cells #[.slice p ws.length q, .int .i64 b] 63)).heap.size := by simp
  generalize hw : (w.alloc (.cells #[.slice p ws.length q, .int .i64 b] 63)) = w0 at *
  clear hw
  have n0_0 : w.heap.size < w0.heap.size := by omega
  refine (impl_plane p ws q b _ (Hhq.out.below HB0.out) hn false h).mono ?_
  rintro e w1 ⟨rfl, hb⟩
  have s1 : w0.heap.size ≤ w1.heap.size := hb.size
  have n1_0 : w.heap.size < w1.heap.size := by omega
  replace x0_0 := cell_below hb x0_0 (by omega)
  replace x0_1 := cell_below hb x0_1 (by omega)
  have HB1 := Lib.hid (HB0.out.trans (hb.mono (by omega)))
  clear hb
  go_wp2_with fail
  go_ret2
  exact ret_empty HB1.out
set_option maxRecDepth 100000 in
set_option maxHeartbeats 4000000 in
theorem impl_yes_1 (p : Option Addr) (ws : List Int) (q : Nat) (b : Int) (w : World) (hq : ints.Reads .i64 w p ws) (hn : ws.length ≤ 1048576) (h : Hid (planeB ws b = true)) (HL : Hid (ws.length = 1)) (hA : numsB 99 ws = true) :
    Calls Try.prog 144 #[.agg #[.slice p ws.length q, .int .i64 b]] w (RetIB (tabTo ws b 1 2) true w) := by
  obtain ⟨i0, hi, hz0, hz1, hz2⟩ := info_parts tables.infoInt
  have Hhq := Lib.hid hq
  clear hq
  go_enter Try.func144, Try.ntmps144
  go_wp2_with fail
  have x0_0 : (w.alloc (.cells #[.slice p ws.length q, .int .i64 b] 63)).cell? ⟨w.heap.size, 0, none⟩ = some (.slice p ws.length q) := cell_new _ _ _ (by simp) rfl
  have x0_1 : (w.alloc (.cells #[.slice p ws.length q, .int .i64 b] 63)).cell? ⟨w.heap.size, 1, none⟩ = some (.int .i64 b) := cell_new _ _ _ (by simp) rfl
  have HB0 := Lib.hid (below_alloc w (.cells #[.slice p ws.length q, .int .i64 b] 63))
  have s0 : w.heap.size + 1 ≤ (w.alloc (.cells #[.slice p ws.length q, .int .i64 b] 63)).heap.size := by simp
  generalize hw : (w.alloc (.cells #[.slice p ws.length q, .int .i64 b] 63)) = w0 at *
  clear hw
  have n0_0 : w.heap.size < w0.heap.size := by omega
  refine (impl_plane p ws q b _ (Hhq.out.below HB0.out) hn true h).mono ?_
  rintro e w1 ⟨rfl, hb⟩
  have s1 : w0.heap.size ≤ w1.heap.size := hb.size
  have n1_0 : w.heap.size < w1.heap.size := by omega
  replace x0_0 := cell_below hb x0_0 (by omega)
  replace x0_1 := cell_below hb x0_1 (by omega)
  have HB1 := Lib.hid (HB0.out.trans (hb.mono (by omega)))
  clear hb
  have HX := Lib.hid (show w1.cell? ⟨w.heap.size, 0, none⟩ = some (.slice p ws.length q) ∧ w1.cell? ⟨w.heap.size, 1, none⟩ = some (.int .i64 b) from ⟨x0_0, x0_1⟩)
  rw [HL.out] at x0_0
  go_wp2_with (refine wpList_make_full _ rfl _ _ 22 rfl w1.heap.size 3 i0 (.int .i64 0) 1 Try.underlying22 hi hz0 hz1 .i64 .i64 _ _ 2 rfl rfl rfl rfl (by rw [hz2]; omega) (by unfold maxLen; omega) (Nat.le_refl _) ?_; intro w9 hown1 hgrow1; refine Hid.out ?_)
  refine Lib.hid ?_
  have hb1 : Below w1.heap.size w1 w9 := (Below.refl _ _).grown hgrow1 (Nat.le_refl _) (by simp)
  rw [show (Value.int .i64 0).cells = #[Value.int .i64 0] from rfl, Nat.mul_one, toList_madeCells_one, ← tables.filled_zero ws b 1] at hown1
  have hs1 : w.heap.size ≤ w1.heap.size := HB1.out.size
  clear hgrow1
  go_wp2_with fail
  go_loopw [19] (fun i wr => ∃ k : Nat, k ≤ 2 ∧ i = .int .i64 k ∧ wr.ownsRow w1.heap.size 3 1 (.slice (some ⟨w1.heap.size, 0, none⟩) 2 2) 2 (tables.filled ws b 1 2 k) ∧ Below w1.heap.size w1 wr) (fun i _ => 2 - (intOf i).toNat)
  case atStart => exact ⟨0, Nat.zero_le _, rfl, hown1, hb1⟩
  case round =>
    obtain ⟨k, hk', rfl, hown, hbel⟩ := hrel
    have hsz := hbel.size
    have HBl := Lib.hid hbel
    clear hown1 hb1 x0_0 x0_1
    by_cases hlt : k < 2
    · have y0 := cell_below hbel HX.out.1 (by omega)
      have y1 := cell_below hbel HX.out.2 (by omega)
      have HT0 := Lib.hid (show ∀ wa : World, (wa.cell? ⟨w.heap.size, 0, none⟩ = some (.slice p ws.length q) ∧ wa.cell? ⟨w.heap.size, 1, none⟩ = some (.int .i64 b) ∧ Below w1.heap.size w1 wa) → wa.ownsRow w1.heap.size 3 1 (.slice (some ⟨w1.heap.size, 0, none⟩) 2 2) 2 (tables.filled ws b 1 2 k) → Calls Try.prog 133 #[.int .i64 1, .int .i64 k] wa fun e w' => ∃ (qa : Option Addr) (qc : Nat), e = .returned (.slice qa 1 qc) ∧ ints.Reads .i64 w' qa (bitsTo k 1) ∧ w'.ownsRow w1.heap.size 3 1 (.slice (some ⟨w1.heap.size, 0, none⟩) 2 2) 2 (tables.filled ws b 1 2 k) ∧ (w'.cell? ⟨w.heap.size, 0, none⟩ = some (.slice p ws.length q) ∧ w'.cell? ⟨w.heap.size, 1, none⟩ = some (.int .i64 b) ∧ Below w1.heap.size w1 w') from fun wa hS ho => by
        have hwz := hS.2.2.size
        refine (impl_bits 1 k wa (by omega) (by omega)).mono ?_
        rintro e w' ⟨v, rfl, hov, hb⟩
        obtain ⟨qa, qc, rfl, hrd, _, _⟩ := hov.slice
        exact ⟨qa, qc, by rw [bitsTo_length], hrd, ownsRow_block ho (fun g hg => hb.block g (ho.lt g hg).2), cell_below hb hS.1 (by omega), cell_below hb hS.2.1 (by omega), hS.2.2.trans (hb.mono (by omega))⟩)
      have HT1 := Lib.hid (show ∀ (wa : World) (qa : Option Addr) (qc : Nat), (wa.cell? ⟨w.heap.size, 0, none⟩ = some (.slice p ws.length q) ∧ wa.cell? ⟨w.heap.size, 1, none⟩ = some (.int .i64 b) ∧ Below w1.heap.size w1 wa) → ints.Reads .i64 wa qa (bitsTo k 1) → wa.ownsRow w1.heap.size 3 1 (.slice (some ⟨w1.heap.size, 0, none⟩) 2 2) 2 (tables.filled ws b 1 2 k) → Calls Try.prog 183 #[.agg #[.slice p ws.length q, .int .i64 b], .slice qa 1 qc] wa fun e w' => e = .returned (.int .i64 (side ws b (bitsTo k 1))) ∧ w'.ownsRow w1.heap.size 3 1 (.slice (some ⟨w1.heap.size, 0, none⟩) 2 2) 2 (tables.filled ws b 1 2 k) ∧ (w'.cell? ⟨w.heap.size, 0, none⟩ = some (.slice p ws.length q) ∧ w'.cell? ⟨w.heap.size, 1, none⟩ = some (.int .i64 b) ∧ Below w1.heap.size w1 w') from fun wa qa qc hS hrd ho => by
        have hwz := hS.2.2.size
        have hB := HB1.out.trans (hS.2.2.mono (by omega))
        have hc := impl_side p ws q b qa (bitsTo k 1) qc wa (Hhq.out.below hB) hrd (by have := HL.out; omega) (by rw [bitsTo_length]; have := HL.out; omega) (by rw [bitsTo_length]; omega) (bits_small hA k 1 HL.out)
        rw [bitsTo_length] at hc
        refine hc.mono ?_
        rintro e w' ⟨rfl, hb⟩
        exact ⟨rfl, ownsRow_block ho (fun g hg => hb.block g (ho.lt g hg).2), cell_below hb hS.1 (by omega), cell_below hb hS.2.1 (by omega), hS.2.2.trans (hb.mono (by omega))⟩)
      have HO := Lib.hid hown
      have HBit := Lib.hid (show bitAt ws b 1 k = if side ws b (bitsTo k 1) = 1 then 1 else 0 from rfl)
      have hsd := side_cases ws b (bitsTo k 1)
      have i1 : (0 : Int) ≤ (k : Int) := by omega
      have i2 : (k : Int) < 2 := by omega
      clear hown hbel
      rcases hsd with hs | hs
      · have HST := Lib.hid (show ∀ W : World, W.ownsRow w1.heap.size 3 1 (.slice (some ⟨w1.heap.size, 0, none⟩) 2 2) 2 (tables.filled ws b 1 2 k) → (W.setCell ⟨w1.heap.size, k, none⟩ (.int .i64 1)).ownsRow w1.heap.size 3 1 (.slice (some ⟨w1.heap.size, 0, none⟩) 2 2) 2 (tables.filled ws b 1 2 (k + 1)) from fun W ho => by
          have := (ho.stored k (.int .i64 1)).1
          rw [tables.filled_one hlt (by rw [HBit.out, hs]; rfl)] at this
          exact this)
        have HCL := Lib.hid (show ∀ W : World, W.ownsRow w1.heap.size 3 1 (.slice (some ⟨w1.heap.size, 0, none⟩) 2 2) 2 (tables.filled ws b 1 2 k) → W.cell? ⟨w1.heap.size, k, none⟩ = some (.int .i64 0) from fun W ho => by rw [ho.cellAt k (by omega), tables.filled_at ws b 1 _ k hlt])
        rw [hs] at HT1
        clear hs HBit
        go_wp2_with fail
        go_region_held3 (fun w' => w'.cell? ⟨w.heap.size, 0, none⟩ = some (.slice p ws.length q) ∧ w'.cell? ⟨w.heap.size, 1, none⟩ = some (.int .i64 b) ∧ Below w1.heap.size w1 w') (first | assumption | exact ⟨y0, y1, HBl.out⟩ | exact ⟨y0, y1, HBl.out.drew⟩) (first | (go_at_call 133; refine Calls.mono (HT0.out _ (by assumption) (by first | exact HO.out | exact HO.out.drew)) ?_; rintro e wp ⟨qa, qc, rfl, hrd, hop, hbp⟩) | (go_at_call 183; refine Calls.mono (HT1.out _ _ _ (by assumption) hrd hop) ?_; rintro e wq ⟨rfl, hoq, hbx⟩))
        have hcell := HCL.out _ hoq
        have hfro := hoq.frozenAt k
        have HS5 := Lib.hid (HST.out _ hoq)
        have HBq := Lib.hid hbx.2.2
        clear hop hoq hbx hbp hrd
        go_wp2_with fail
        go_roundw
        case rel => exact ⟨k + 1, by omega, by go_num, HS5.out, HBq.out.setCell (Nat.le_refl _) _⟩
        case measure => simp [intOf]; omega
      · have HN := Lib.hid (tables.filled_nil (ws := ws) (b := b) (n := 1) hlt (by rw [HBit.out, hs]; rfl))
        rw [hs] at HT1
        clear hs HBit
        go_wp2_with fail
        go_region_held3 (fun w' => w'.cell? ⟨w.heap.size, 0, none⟩ = some (.slice p ws.length q) ∧ w'.cell? ⟨w.heap.size, 1, none⟩ = some (.int .i64 b) ∧ Below w1.heap.size w1 w') (first | assumption | exact ⟨y0, y1, HBl.out⟩ | exact ⟨y0, y1, HBl.out.drew⟩) (first | (go_at_call 133; refine Calls.mono (HT0.out _ (by assumption) (by first | exact HO.out | exact HO.out.drew)) ?_; rintro e wp ⟨qa, qc, rfl, hrd, hop, hbp⟩) | (go_at_call 183; refine Calls.mono (HT1.out _ _ _ (by assumption) hrd hop) ?_; rintro e wq ⟨rfl, hoq, hbx⟩))
        have HOq := Lib.hid hoq
        have HBq := Lib.hid hbx.2.2
        clear hop hoq hbx hbp hrd
        go_wp2_with fail
        go_roundw
        case rel => exact ⟨k + 1, by omega, by go_num, by rw [← HN.out]; exact HOq.out, HBq.out⟩
        case measure => simp [intOf]; omega
    · obtain rfl : k = 2 := by omega
      rw [tables.filled_all] at hown
      have HO := Lib.hid hown
      clear hown hbel
      go_wp2_with fail
      go_ret2
      exact ⟨_, rfl, (OwnI.of (by rw [tabTo_length]; exact HO.out)).mono hs1 (Nat.le_refl _), HB1.out.trans (HBl.out.mono hs1)⟩
set_option maxRecDepth 100000 in
set_option maxHeartbeats 4000000 in
theorem impl_yes_2 (p : Option Addr) (ws : List Int) (q : Nat) (b : Int) (w : World) (hq : ints.Reads .i64 w p ws) (hn : ws.length ≤ 1048576) (h : Hid (planeB ws b = true)) (HL : Hid (ws.length = 2)) (hA : numsB 99 ws = true) :
    Calls Try.prog 144 #[.agg #[.slice p ws.length q, .int .i64 b]] w (RetIB (tabTo ws b 2 4) true w) := by
  obtain ⟨i0, hi, hz0, hz1, hz2⟩ := info_parts tables.infoInt
  have Hhq := Lib.hid hq
  clear hq
  go_enter Try.func144, Try.ntmps144
  go_wp2_with fail
  have x0_0 : (w.alloc (.cells #[.slice p ws.length q, .int .i64 b] 63)).cell? ⟨w.heap.size, 0, none⟩ = some (.slice p ws.length q) := cell_new _ _ _ (by simp) rfl
  have x0_1 : (w.alloc (.cells #[.slice p ws.length q, .int .i64 b] 63)).cell? ⟨w.heap.size, 1, none⟩ = some (.int .i64 b) := cell_new _ _ _ (by simp) rfl
  have HB0 := Lib.hid (below_alloc w (.cells #[.slice p ws.length q, .int .i64 b] 63))
  have s0 : w.heap.size + 1 ≤ (w.alloc (.cells #[.slice p ws.length q, .int .i64 b] 63)).heap.size := by simp
  generalize hw : (w.alloc (.cells #[.slice p ws.length q, .int .i64 b] 63)) = w0 at *
  clear hw
  have n0_0 : w.heap.size < w0.heap.size := by omega
  refine (impl_plane p ws q b _ (Hhq.out.below HB0.out) hn true h).mono ?_
  rintro e w1 ⟨rfl, hb⟩
  have s1 : w0.heap.size ≤ w1.heap.size := hb.size
  have n1_0 : w.heap.size < w1.heap.size := by omega
  replace x0_0 := cell_below hb x0_0 (by omega)
  replace x0_1 := cell_below hb x0_1 (by omega)
  have HB1 := Lib.hid (HB0.out.trans (hb.mono (by omega)))
  clear hb
  have HX := Lib.hid (show w1.cell? ⟨w.heap.size, 0, none⟩ = some (.slice p ws.length q) ∧ w1.cell? ⟨w.heap.size, 1, none⟩ = some (.int .i64 b) from ⟨x0_0, x0_1⟩)
  rw [HL.out] at x0_0
  go_wp2_with (refine wpList_make_full _ rfl _ _ 22 rfl w1.heap.size 3 i0 (.int .i64 0) 1 Try.underlying22 hi hz0 hz1 .i64 .i64 _ _ 4 rfl rfl rfl rfl (by rw [hz2]; omega) (by unfold maxLen; omega) (Nat.le_refl _) ?_; intro w9 hown1 hgrow1; refine Hid.out ?_)
  refine Lib.hid ?_
  have hb1 : Below w1.heap.size w1 w9 := (Below.refl _ _).grown hgrow1 (Nat.le_refl _) (by simp)
  rw [show (Value.int .i64 0).cells = #[Value.int .i64 0] from rfl, Nat.mul_one, toList_madeCells_one, ← tables.filled_zero ws b 2] at hown1
  have hs1 : w.heap.size ≤ w1.heap.size := HB1.out.size
  clear hgrow1
  go_wp2_with fail
  go_loopw [19] (fun i wr => ∃ k : Nat, k ≤ 4 ∧ i = .int .i64 k ∧ wr.ownsRow w1.heap.size 3 1 (.slice (some ⟨w1.heap.size, 0, none⟩) 4 4) 4 (tables.filled ws b 2 4 k) ∧ Below w1.heap.size w1 wr) (fun i _ => 4 - (intOf i).toNat)
  case atStart => exact ⟨0, Nat.zero_le _, rfl, hown1, hb1⟩
  case round =>
    obtain ⟨k, hk', rfl, hown, hbel⟩ := hrel
    have hsz := hbel.size
    have HBl := Lib.hid hbel
    clear hown1 hb1 x0_0 x0_1
    by_cases hlt : k < 4
    · have y0 := cell_below hbel HX.out.1 (by omega)
      have y1 := cell_below hbel HX.out.2 (by omega)
      have HT0 := Lib.hid (show ∀ wa : World, (wa.cell? ⟨w.heap.size, 0, none⟩ = some (.slice p ws.length q) ∧ wa.cell? ⟨w.heap.size, 1, none⟩ = some (.int .i64 b) ∧ Below w1.heap.size w1 wa) → wa.ownsRow w1.heap.size 3 1 (.slice (some ⟨w1.heap.size, 0, none⟩) 4 4) 4 (tables.filled ws b 2 4 k) → Calls Try.prog 133 #[.int .i64 2, .int .i64 k] wa fun e w' => ∃ (qa : Option Addr) (qc : Nat), e = .returned (.slice qa 2 qc) ∧ ints.Reads .i64 w' qa (bitsTo k 2) ∧ w'.ownsRow w1.heap.size 3 1 (.slice (some ⟨w1.heap.size, 0, none⟩) 4 4) 4 (tables.filled ws b 2 4 k) ∧ (w'.cell? ⟨w.heap.size, 0, none⟩ = some (.slice p ws.length q) ∧ w'.cell? ⟨w.heap.size, 1, none⟩ = some (.int .i64 b) ∧ Below w1.heap.size w1 w') from fun wa hS ho => by
        have hwz := hS.2.2.size
        refine (impl_bits 2 k wa (by omega) (by omega)).mono ?_
        rintro e w' ⟨v, rfl, hov, hb⟩
        obtain ⟨qa, qc, rfl, hrd, _, _⟩ := hov.slice
        exact ⟨qa, qc, by rw [bitsTo_length], hrd, ownsRow_block ho (fun g hg => hb.block g (ho.lt g hg).2), cell_below hb hS.1 (by omega), cell_below hb hS.2.1 (by omega), hS.2.2.trans (hb.mono (by omega))⟩)
      have HT1 := Lib.hid (show ∀ (wa : World) (qa : Option Addr) (qc : Nat), (wa.cell? ⟨w.heap.size, 0, none⟩ = some (.slice p ws.length q) ∧ wa.cell? ⟨w.heap.size, 1, none⟩ = some (.int .i64 b) ∧ Below w1.heap.size w1 wa) → ints.Reads .i64 wa qa (bitsTo k 2) → wa.ownsRow w1.heap.size 3 1 (.slice (some ⟨w1.heap.size, 0, none⟩) 4 4) 4 (tables.filled ws b 2 4 k) → Calls Try.prog 183 #[.agg #[.slice p ws.length q, .int .i64 b], .slice qa 2 qc] wa fun e w' => e = .returned (.int .i64 (side ws b (bitsTo k 2))) ∧ w'.ownsRow w1.heap.size 3 1 (.slice (some ⟨w1.heap.size, 0, none⟩) 4 4) 4 (tables.filled ws b 2 4 k) ∧ (w'.cell? ⟨w.heap.size, 0, none⟩ = some (.slice p ws.length q) ∧ w'.cell? ⟨w.heap.size, 1, none⟩ = some (.int .i64 b) ∧ Below w1.heap.size w1 w') from fun wa qa qc hS hrd ho => by
        have hwz := hS.2.2.size
        have hB := HB1.out.trans (hS.2.2.mono (by omega))
        have hc := impl_side p ws q b qa (bitsTo k 2) qc wa (Hhq.out.below hB) hrd (by have := HL.out; omega) (by rw [bitsTo_length]; have := HL.out; omega) (by rw [bitsTo_length]; omega) (bits_small hA k 2 HL.out)
        rw [bitsTo_length] at hc
        refine hc.mono ?_
        rintro e w' ⟨rfl, hb⟩
        exact ⟨rfl, ownsRow_block ho (fun g hg => hb.block g (ho.lt g hg).2), cell_below hb hS.1 (by omega), cell_below hb hS.2.1 (by omega), hS.2.2.trans (hb.mono (by omega))⟩)
      have HO := Lib.hid hown
      have HBit := Lib.hid (show bitAt ws b 2 k = if side ws b (bitsTo k 2) = 1 then 1 else 0 from rfl)
      have hsd := side_cases ws b (bitsTo k 2)
      have i1 : (0 : Int) ≤ (k : Int) := by omega
      have i2 : (k : Int) < 4 := by omega
      clear hown hbel
      rcases hsd with hs | hs
      · have HST := Lib.hid (show ∀ W : World, W.ownsRow w1.heap.size 3 1 (.slice (some ⟨w1.heap.size, 0, none⟩) 4 4) 4 (tables.filled ws b 2 4 k) → (W.setCell ⟨w1.heap.size, k, none⟩ (.int .i64 1)).ownsRow w1.heap.size 3 1 (.slice (some ⟨w1.heap.size, 0, none⟩) 4 4) 4 (tables.filled ws b 2 4 (k + 1)) from fun W ho => by
          have := (ho.stored k (.int .i64 1)).1
          rw [tables.filled_one hlt (by rw [HBit.out, hs]; rfl)] at this
          exact this)
        have HCL := Lib.hid (show ∀ W : World, W.ownsRow w1.heap.size 3 1 (.slice (some ⟨w1.heap.size, 0, none⟩) 4 4) 4 (tables.filled ws b 2 4 k) → W.cell? ⟨w1.heap.size, k, none⟩ = some (.int .i64 0) from fun W ho => by rw [ho.cellAt k (by omega), tables.filled_at ws b 2 _ k hlt])
        rw [hs] at HT1
        clear hs HBit
        go_wp2_with fail
        go_region_held3 (fun w' => w'.cell? ⟨w.heap.size, 0, none⟩ = some (.slice p ws.length q) ∧ w'.cell? ⟨w.heap.size, 1, none⟩ = some (.int .i64 b) ∧ Below w1.heap.size w1 w') (first | assumption | exact ⟨y0, y1, HBl.out⟩ | exact ⟨y0, y1, HBl.out.drew⟩) (first | (go_at_call 133; refine Calls.mono (HT0.out _ (by assumption) (by first | exact HO.out | exact HO.out.drew)) ?_; rintro e wp ⟨qa, qc, rfl, hrd, hop, hbp⟩) | (go_at_call 183; refine Calls.mono (HT1.out _ _ _ (by assumption) hrd hop) ?_; rintro e wq ⟨rfl, hoq, hbx⟩))
        have hcell := HCL.out _ hoq
        have hfro := hoq.frozenAt k
        have HS5 := Lib.hid (HST.out _ hoq)
        have HBq := Lib.hid hbx.2.2
        clear hop hoq hbx hbp hrd
        go_wp2_with fail
        go_roundw
        case rel => exact ⟨k + 1, by omega, by go_num, HS5.out, HBq.out.setCell (Nat.le_refl _) _⟩
        case measure => simp [intOf]; omega
      · have HN := Lib.hid (tables.filled_nil (ws := ws) (b := b) (n := 2) hlt (by rw [HBit.out, hs]; rfl))
        rw [hs] at HT1
        clear hs HBit
        go_wp2_with fail
        go_region_held3 (fun w' => w'.cell? ⟨w.heap.size, 0, none⟩ = some (.slice p ws.length q) ∧ w'.cell? ⟨w.heap.size, 1, none⟩ = some (.int .i64 b) ∧ Below w1.heap.size w1 w') (first | assumption | exact ⟨y0, y1, HBl.out⟩ | exact ⟨y0, y1, HBl.out.drew⟩) (first | (go_at_call 133; refine Calls.mono (HT0.out _ (by assumption) (by first | exact HO.out | exact HO.out.drew)) ?_; rintro e wp ⟨qa, qc, rfl, hrd, hop, hbp⟩) | (go_at_call 183; refine Calls.mono (HT1.out _ _ _ (by assumption) hrd hop) ?_; rintro e wq ⟨rfl, hoq, hbx⟩))
        have HOq := Lib.hid hoq
        have HBq := Lib.hid hbx.2.2
        clear hop hoq hbx hbp hrd
        go_wp2_with fail
        go_roundw
        case rel => exact ⟨k + 1, by omega, by go_num, by rw [← HN.out]; exact HOq.out, HBq.out⟩
        case measure => simp [intOf]; omega
    · obtain rfl : k = 4 := by omega
      rw [tables.filled_all] at hown
      have HO := Lib.hid hown
      clear hown hbel
      go_wp2_with fail
      go_ret2
      exact ⟨_, rfl, (OwnI.of (by rw [tabTo_length]; exact HO.out)).mono hs1 (Nat.le_refl _), HB1.out.trans (HBl.out.mono hs1)⟩
set_option maxRecDepth 100000 in
set_option maxHeartbeats 4000000 in
theorem impl_yes_3 (p : Option Addr) (ws : List Int) (q : Nat) (b : Int) (w : World) (hq : ints.Reads .i64 w p ws) (hn : ws.length ≤ 1048576) (h : Hid (planeB ws b = true)) (HL : Hid (ws.length = 3)) (hA : numsB 99 ws = true) :
    Calls Try.prog 144 #[.agg #[.slice p ws.length q, .int .i64 b]] w (RetIB (tabTo ws b 3 8) true w) := by
  obtain ⟨i0, hi, hz0, hz1, hz2⟩ := info_parts tables.infoInt
  have Hhq := Lib.hid hq
  clear hq
  go_enter Try.func144, Try.ntmps144
  go_wp2_with fail
  have x0_0 : (w.alloc (.cells #[.slice p ws.length q, .int .i64 b] 63)).cell? ⟨w.heap.size, 0, none⟩ = some (.slice p ws.length q) := cell_new _ _ _ (by simp) rfl
  have x0_1 : (w.alloc (.cells #[.slice p ws.length q, .int .i64 b] 63)).cell? ⟨w.heap.size, 1, none⟩ = some (.int .i64 b) := cell_new _ _ _ (by simp) rfl
  have HB0 := Lib.hid (below_alloc w (.cells #[.slice p ws.length q, .int .i64 b] 63))
  have s0 : w.heap.size + 1 ≤ (w.alloc (.cells #[.slice p ws.length q, .int .i64 b] 63)).heap.size := by simp
  generalize hw : (w.alloc (.cells #[.slice p ws.length q, .int .i64 b] 63)) = w0 at *
  clear hw
  have n0_0 : w.heap.size < w0.heap.size := by omega
  refine (impl_plane p ws q b _ (Hhq.out.below HB0.out) hn true h).mono ?_
  rintro e w1 ⟨rfl, hb⟩
  have s1 : w0.heap.size ≤ w1.heap.size := hb.size
  have n1_0 : w.heap.size < w1.heap.size := by omega
  replace x0_0 := cell_below hb x0_0 (by omega)
  replace x0_1 := cell_below hb x0_1 (by omega)
  have HB1 := Lib.hid (HB0.out.trans (hb.mono (by omega)))
  clear hb
  have HX := Lib.hid (show w1.cell? ⟨w.heap.size, 0, none⟩ = some (.slice p ws.length q) ∧ w1.cell? ⟨w.heap.size, 1, none⟩ = some (.int .i64 b) from ⟨x0_0, x0_1⟩)
  rw [HL.out] at x0_0
  go_wp2_with (refine wpList_make_full _ rfl _ _ 22 rfl w1.heap.size 3 i0 (.int .i64 0) 1 Try.underlying22 hi hz0 hz1 .i64 .i64 _ _ 8 rfl rfl rfl rfl (by rw [hz2]; omega) (by unfold maxLen; omega) (Nat.le_refl _) ?_; intro w9 hown1 hgrow1; refine Hid.out ?_)
  refine Lib.hid ?_
  have hb1 : Below w1.heap.size w1 w9 := (Below.refl _ _).grown hgrow1 (Nat.le_refl _) (by simp)
  rw [show (Value.int .i64 0).cells = #[Value.int .i64 0] from rfl, Nat.mul_one, toList_madeCells_one, ← tables.filled_zero ws b 3] at hown1
  have hs1 : w.heap.size ≤ w1.heap.size := HB1.out.size
  clear hgrow1
  go_wp2_with fail
  go_loopw [19] (fun i wr => ∃ k : Nat, k ≤ 8 ∧ i = .int .i64 k ∧ wr.ownsRow w1.heap.size 3 1 (.slice (some ⟨w1.heap.size, 0, none⟩) 8 8) 8 (tables.filled ws b 3 8 k) ∧ Below w1.heap.size w1 wr) (fun i _ => 8 - (intOf i).toNat)
  case atStart => exact ⟨0, Nat.zero_le _, rfl, hown1, hb1⟩
  case round =>
    obtain ⟨k, hk', rfl, hown, hbel⟩ := hrel
    have hsz := hbel.size
    have HBl := Lib.hid hbel
    clear hown1 hb1 x0_0 x0_1
    by_cases hlt : k < 8
    · have y0 := cell_below hbel HX.out.1 (by omega)
      have y1 := cell_below hbel HX.out.2 (by omega)
      have HT0 := Lib.hid (show ∀ wa : World, (wa.cell? ⟨w.heap.size, 0, none⟩ = some (.slice p ws.length q) ∧ wa.cell? ⟨w.heap.size, 1, none⟩ = some (.int .i64 b) ∧ Below w1.heap.size w1 wa) → wa.ownsRow w1.heap.size 3 1 (.slice (some ⟨w1.heap.size, 0, none⟩) 8 8) 8 (tables.filled ws b 3 8 k) → Calls Try.prog 133 #[.int .i64 3, .int .i64 k] wa fun e w' => ∃ (qa : Option Addr) (qc : Nat), e = .returned (.slice qa 3 qc) ∧ ints.Reads .i64 w' qa (bitsTo k 3) ∧ w'.ownsRow w1.heap.size 3 1 (.slice (some ⟨w1.heap.size, 0, none⟩) 8 8) 8 (tables.filled ws b 3 8 k) ∧ (w'.cell? ⟨w.heap.size, 0, none⟩ = some (.slice p ws.length q) ∧ w'.cell? ⟨w.heap.size, 1, none⟩ = some (.int .i64 b) ∧ Below w1.heap.size w1 w') from fun wa hS ho => by
        have hwz := hS.2.2.size
        refine (impl_bits 3 k wa (by omega) (by omega)).mono ?_
        rintro e w' ⟨v, rfl, hov, hb⟩
        obtain ⟨qa, qc, rfl, hrd, _, _⟩ := hov.slice
        exact ⟨qa, qc, by rw [bitsTo_length], hrd, ownsRow_block ho (fun g hg => hb.block g (ho.lt g hg).2), cell_below hb hS.1 (by omega), cell_below hb hS.2.1 (by omega), hS.2.2.trans (hb.mono (by omega))⟩)
      have HT1 := Lib.hid (show ∀ (wa : World) (qa : Option Addr) (qc : Nat), (wa.cell? ⟨w.heap.size, 0, none⟩ = some (.slice p ws.length q) ∧ wa.cell? ⟨w.heap.size, 1, none⟩ = some (.int .i64 b) ∧ Below w1.heap.size w1 wa) → ints.Reads .i64 wa qa (bitsTo k 3) → wa.ownsRow w1.heap.size 3 1 (.slice (some ⟨w1.heap.size, 0, none⟩) 8 8) 8 (tables.filled ws b 3 8 k) → Calls Try.prog 183 #[.agg #[.slice p ws.length q, .int .i64 b], .slice qa 3 qc] wa fun e w' => e = .returned (.int .i64 (side ws b (bitsTo k 3))) ∧ w'.ownsRow w1.heap.size 3 1 (.slice (some ⟨w1.heap.size, 0, none⟩) 8 8) 8 (tables.filled ws b 3 8 k) ∧ (w'.cell? ⟨w.heap.size, 0, none⟩ = some (.slice p ws.length q) ∧ w'.cell? ⟨w.heap.size, 1, none⟩ = some (.int .i64 b) ∧ Below w1.heap.size w1 w') from fun wa qa qc hS hrd ho => by
        have hwz := hS.2.2.size
        have hB := HB1.out.trans (hS.2.2.mono (by omega))
        have hc := impl_side p ws q b qa (bitsTo k 3) qc wa (Hhq.out.below hB) hrd (by have := HL.out; omega) (by rw [bitsTo_length]; have := HL.out; omega) (by rw [bitsTo_length]; omega) (bits_small hA k 3 HL.out)
        rw [bitsTo_length] at hc
        refine hc.mono ?_
        rintro e w' ⟨rfl, hb⟩
        exact ⟨rfl, ownsRow_block ho (fun g hg => hb.block g (ho.lt g hg).2), cell_below hb hS.1 (by omega), cell_below hb hS.2.1 (by omega), hS.2.2.trans (hb.mono (by omega))⟩)
      have HO := Lib.hid hown
      have HBit := Lib.hid (show bitAt ws b 3 k = if side ws b (bitsTo k 3) = 1 then 1 else 0 from rfl)
      have hsd := side_cases ws b (bitsTo k 3)
      have i1 : (0 : Int) ≤ (k : Int) := by omega
      have i2 : (k : Int) < 8 := by omega
      clear hown hbel
      rcases hsd with hs | hs
      · have HST := Lib.hid (show ∀ W : World, W.ownsRow w1.heap.size 3 1 (.slice (some ⟨w1.heap.size, 0, none⟩) 8 8) 8 (tables.filled ws b 3 8 k) → (W.setCell ⟨w1.heap.size, k, none⟩ (.int .i64 1)).ownsRow w1.heap.size 3 1 (.slice (some ⟨w1.heap.size, 0, none⟩) 8 8) 8 (tables.filled ws b 3 8 (k + 1)) from fun W ho => by
          have := (ho.stored k (.int .i64 1)).1
          rw [tables.filled_one hlt (by rw [HBit.out, hs]; rfl)] at this
          exact this)
        have HCL := Lib.hid (show ∀ W : World, W.ownsRow w1.heap.size 3 1 (.slice (some ⟨w1.heap.size, 0, none⟩) 8 8) 8 (tables.filled ws b 3 8 k) → W.cell? ⟨w1.heap.size, k, none⟩ = some (.int .i64 0) from fun W ho => by rw [ho.cellAt k (by omega), tables.filled_at ws b 3 _ k hlt])
        rw [hs] at HT1
        clear hs HBit
        go_wp2_with fail
        go_region_held3 (fun w' => w'.cell? ⟨w.heap.size, 0, none⟩ = some (.slice p ws.length q) ∧ w'.cell? ⟨w.heap.size, 1, none⟩ = some (.int .i64 b) ∧ Below w1.heap.size w1 w') (first | assumption | exact ⟨y0, y1, HBl.out⟩ | exact ⟨y0, y1, HBl.out.drew⟩) (first | (go_at_call 133; refine Calls.mono (HT0.out _ (by assumption) (by first | exact HO.out | exact HO.out.drew)) ?_; rintro e wp ⟨qa, qc, rfl, hrd, hop, hbp⟩) | (go_at_call 183; refine Calls.mono (HT1.out _ _ _ (by assumption) hrd hop) ?_; rintro e wq ⟨rfl, hoq, hbx⟩))
        have hcell := HCL.out _ hoq
        have hfro := hoq.frozenAt k
        have HS5 := Lib.hid (HST.out _ hoq)
        have HBq := Lib.hid hbx.2.2
        clear hop hoq hbx hbp hrd
        go_wp2_with fail
        go_roundw
        case rel => exact ⟨k + 1, by omega, by go_num, HS5.out, HBq.out.setCell (Nat.le_refl _) _⟩
        case measure => simp [intOf]; omega
      · have HN := Lib.hid (tables.filled_nil (ws := ws) (b := b) (n := 3) hlt (by rw [HBit.out, hs]; rfl))
        rw [hs] at HT1
        clear hs HBit
        go_wp2_with fail
        go_region_held3 (fun w' => w'.cell? ⟨w.heap.size, 0, none⟩ = some (.slice p ws.length q) ∧ w'.cell? ⟨w.heap.size, 1, none⟩ = some (.int .i64 b) ∧ Below w1.heap.size w1 w') (first | assumption | exact ⟨y0, y1, HBl.out⟩ | exact ⟨y0, y1, HBl.out.drew⟩) (first | (go_at_call 133; refine Calls.mono (HT0.out _ (by assumption) (by first | exact HO.out | exact HO.out.drew)) ?_; rintro e wp ⟨qa, qc, rfl, hrd, hop, hbp⟩) | (go_at_call 183; refine Calls.mono (HT1.out _ _ _ (by assumption) hrd hop) ?_; rintro e wq ⟨rfl, hoq, hbx⟩))
        have HOq := Lib.hid hoq
        have HBq := Lib.hid hbx.2.2
        clear hop hoq hbx hbp hrd
        go_wp2_with fail
        go_roundw
        case rel => exact ⟨k + 1, by omega, by go_num, by rw [← HN.out]; exact HOq.out, HBq.out⟩
        case measure => simp [intOf]; omega
    · obtain rfl : k = 8 := by omega
      rw [tables.filled_all] at hown
      have HO := Lib.hid hown
      clear hown hbel
      go_wp2_with fail
      go_ret2
      exact ⟨_, rfl, (OwnI.of (by rw [tabTo_length]; exact HO.out)).mono hs1 (Nat.le_refl _), HB1.out.trans (HBl.out.mono hs1)⟩
set_option maxRecDepth 100000 in
set_option maxHeartbeats 4000000 in
theorem impl_yes_4 (p : Option Addr) (ws : List Int) (q : Nat) (b : Int) (w : World) (hq : ints.Reads .i64 w p ws) (hn : ws.length ≤ 1048576) (h : Hid (planeB ws b = true)) (HL : Hid (ws.length = 4)) (hA : numsB 99 ws = true) :
    Calls Try.prog 144 #[.agg #[.slice p ws.length q, .int .i64 b]] w (RetIB (tabTo ws b 4 16) true w) := by
  obtain ⟨i0, hi, hz0, hz1, hz2⟩ := info_parts tables.infoInt
  have Hhq := Lib.hid hq
  clear hq
  go_enter Try.func144, Try.ntmps144
  go_wp2_with fail
  have x0_0 : (w.alloc (.cells #[.slice p ws.length q, .int .i64 b] 63)).cell? ⟨w.heap.size, 0, none⟩ = some (.slice p ws.length q) := cell_new _ _ _ (by simp) rfl
  have x0_1 : (w.alloc (.cells #[.slice p ws.length q, .int .i64 b] 63)).cell? ⟨w.heap.size, 1, none⟩ = some (.int .i64 b) := cell_new _ _ _ (by simp) rfl
  have HB0 := Lib.hid (below_alloc w (.cells #[.slice p ws.length q, .int .i64 b] 63))
  have s0 : w.heap.size + 1 ≤ (w.alloc (.cells #[.slice p ws.length q, .int .i64 b] 63)).heap.size := by simp
  generalize hw : (w.alloc (.cells #[.slice p ws.length q, .int .i64 b] 63)) = w0 at *
  clear hw
  have n0_0 : w.heap.size < w0.heap.size := by omega
  refine (impl_plane p ws q b _ (Hhq.out.below HB0.out) hn true h).mono ?_
  rintro e w1 ⟨rfl, hb⟩
  have s1 : w0.heap.size ≤ w1.heap.size := hb.size
  have n1_0 : w.heap.size < w1.heap.size := by omega
  replace x0_0 := cell_below hb x0_0 (by omega)
  replace x0_1 := cell_below hb x0_1 (by omega)
  have HB1 := Lib.hid (HB0.out.trans (hb.mono (by omega)))
  clear hb
  have HX := Lib.hid (show w1.cell? ⟨w.heap.size, 0, none⟩ = some (.slice p ws.length q) ∧ w1.cell? ⟨w.heap.size, 1, none⟩ = some (.int .i64 b) from ⟨x0_0, x0_1⟩)
  rw [HL.out] at x0_0
  go_wp2_with (refine wpList_make_full _ rfl _ _ 22 rfl w1.heap.size 3 i0 (.int .i64 0) 1 Try.underlying22 hi hz0 hz1 .i64 .i64 _ _ 16 rfl rfl rfl rfl (by rw [hz2]; omega) (by unfold maxLen; omega) (Nat.le_refl _) ?_; intro w9 hown1 hgrow1; refine Hid.out ?_)
  refine Lib.hid ?_
  have hb1 : Below w1.heap.size w1 w9 := (Below.refl _ _).grown hgrow1 (Nat.le_refl _) (by simp)
  rw [show (Value.int .i64 0).cells = #[Value.int .i64 0] from rfl, Nat.mul_one, toList_madeCells_one, ← tables.filled_zero ws b 4] at hown1
  have hs1 : w.heap.size ≤ w1.heap.size := HB1.out.size
  clear hgrow1
  go_wp2_with fail
  go_loopw [19] (fun i wr => ∃ k : Nat, k ≤ 16 ∧ i = .int .i64 k ∧ wr.ownsRow w1.heap.size 3 1 (.slice (some ⟨w1.heap.size, 0, none⟩) 16 16) 16 (tables.filled ws b 4 16 k) ∧ Below w1.heap.size w1 wr) (fun i _ => 16 - (intOf i).toNat)
  case atStart => exact ⟨0, Nat.zero_le _, rfl, hown1, hb1⟩
  case round =>
    obtain ⟨k, hk', rfl, hown, hbel⟩ := hrel
    have hsz := hbel.size
    have HBl := Lib.hid hbel
    clear hown1 hb1 x0_0 x0_1
    by_cases hlt : k < 16
    · have y0 := cell_below hbel HX.out.1 (by omega)
      have y1 := cell_below hbel HX.out.2 (by omega)
      have HT0 := Lib.hid (show ∀ wa : World, (wa.cell? ⟨w.heap.size, 0, none⟩ = some (.slice p ws.length q) ∧ wa.cell? ⟨w.heap.size, 1, none⟩ = some (.int .i64 b) ∧ Below w1.heap.size w1 wa) → wa.ownsRow w1.heap.size 3 1 (.slice (some ⟨w1.heap.size, 0, none⟩) 16 16) 16 (tables.filled ws b 4 16 k) → Calls Try.prog 133 #[.int .i64 4, .int .i64 k] wa fun e w' => ∃ (qa : Option Addr) (qc : Nat), e = .returned (.slice qa 4 qc) ∧ ints.Reads .i64 w' qa (bitsTo k 4) ∧ w'.ownsRow w1.heap.size 3 1 (.slice (some ⟨w1.heap.size, 0, none⟩) 16 16) 16 (tables.filled ws b 4 16 k) ∧ (w'.cell? ⟨w.heap.size, 0, none⟩ = some (.slice p ws.length q) ∧ w'.cell? ⟨w.heap.size, 1, none⟩ = some (.int .i64 b) ∧ Below w1.heap.size w1 w') from fun wa hS ho => by
        have hwz := hS.2.2.size
        refine (impl_bits 4 k wa (by omega) (by omega)).mono ?_
        rintro e w' ⟨v, rfl, hov, hb⟩
        obtain ⟨qa, qc, rfl, hrd, _, _⟩ := hov.slice
        exact ⟨qa, qc, by rw [bitsTo_length], hrd, ownsRow_block ho (fun g hg => hb.block g (ho.lt g hg).2), cell_below hb hS.1 (by omega), cell_below hb hS.2.1 (by omega), hS.2.2.trans (hb.mono (by omega))⟩)
      have HT1 := Lib.hid (show ∀ (wa : World) (qa : Option Addr) (qc : Nat), (wa.cell? ⟨w.heap.size, 0, none⟩ = some (.slice p ws.length q) ∧ wa.cell? ⟨w.heap.size, 1, none⟩ = some (.int .i64 b) ∧ Below w1.heap.size w1 wa) → ints.Reads .i64 wa qa (bitsTo k 4) → wa.ownsRow w1.heap.size 3 1 (.slice (some ⟨w1.heap.size, 0, none⟩) 16 16) 16 (tables.filled ws b 4 16 k) → Calls Try.prog 183 #[.agg #[.slice p ws.length q, .int .i64 b], .slice qa 4 qc] wa fun e w' => e = .returned (.int .i64 (side ws b (bitsTo k 4))) ∧ w'.ownsRow w1.heap.size 3 1 (.slice (some ⟨w1.heap.size, 0, none⟩) 16 16) 16 (tables.filled ws b 4 16 k) ∧ (w'.cell? ⟨w.heap.size, 0, none⟩ = some (.slice p ws.length q) ∧ w'.cell? ⟨w.heap.size, 1, none⟩ = some (.int .i64 b) ∧ Below w1.heap.size w1 w') from fun wa qa qc hS hrd ho => by
        have hwz := hS.2.2.size
        have hB := HB1.out.trans (hS.2.2.mono (by omega))
        have hc := impl_side p ws q b qa (bitsTo k 4) qc wa (Hhq.out.below hB) hrd (by have := HL.out; omega) (by rw [bitsTo_length]; have := HL.out; omega) (by rw [bitsTo_length]; omega) (bits_small hA k 4 HL.out)
        rw [bitsTo_length] at hc
        refine hc.mono ?_
        rintro e w' ⟨rfl, hb⟩
        exact ⟨rfl, ownsRow_block ho (fun g hg => hb.block g (ho.lt g hg).2), cell_below hb hS.1 (by omega), cell_below hb hS.2.1 (by omega), hS.2.2.trans (hb.mono (by omega))⟩)
      have HO := Lib.hid hown
      have HBit := Lib.hid (show bitAt ws b 4 k = if side ws b (bitsTo k 4) = 1 then 1 else 0 from rfl)
      have hsd := side_cases ws b (bitsTo k 4)
      have i1 : (0 : Int) ≤ (k : Int) := by omega
      have i2 : (k : Int) < 16 := by omega
      clear hown hbel
      rcases hsd with hs | hs
      · have HST := Lib.hid (show ∀ W : World, W.ownsRow w1.heap.size 3 1 (.slice (some ⟨w1.heap.size, 0, none⟩) 16 16) 16 (tables.filled ws b 4 16 k) → (W.setCell ⟨w1.heap.size, k, none⟩ (.int .i64 1)).ownsRow w1.heap.size 3 1 (.slice (some ⟨w1.heap.size, 0, none⟩) 16 16) 16 (tables.filled ws b 4 16 (k + 1)) from fun W ho => by
          have := (ho.stored k (.int .i64 1)).1
          rw [tables.filled_one hlt (by rw [HBit.out, hs]; rfl)] at this
          exact this)
        have HCL := Lib.hid (show ∀ W : World, W.ownsRow w1.heap.size 3 1 (.slice (some ⟨w1.heap.size, 0, none⟩) 16 16) 16 (tables.filled ws b 4 16 k) → W.cell? ⟨w1.heap.size, k, none⟩ = some (.int .i64 0) from fun W ho => by rw [ho.cellAt k (by omega), tables.filled_at ws b 4 _ k hlt])
        rw [hs] at HT1
        clear hs HBit
        go_wp2_with fail
        go_region_held3 (fun w' => w'.cell? ⟨w.heap.size, 0, none⟩ = some (.slice p ws.length q) ∧ w'.cell? ⟨w.heap.size, 1, none⟩ = some (.int .i64 b) ∧ Below w1.heap.size w1 w') (first | assumption | exact ⟨y0, y1, HBl.out⟩ | exact ⟨y0, y1, HBl.out.drew⟩) (first | (go_at_call 133; refine Calls.mono (HT0.out _ (by assumption) (by first | exact HO.out | exact HO.out.drew)) ?_; rintro e wp ⟨qa, qc, rfl, hrd, hop, hbp⟩) | (go_at_call 183; refine Calls.mono (HT1.out _ _ _ (by assumption) hrd hop) ?_; rintro e wq ⟨rfl, hoq, hbx⟩))
        have hcell := HCL.out _ hoq
        have hfro := hoq.frozenAt k
        have HS5 := Lib.hid (HST.out _ hoq)
        have HBq := Lib.hid hbx.2.2
        clear hop hoq hbx hbp hrd
        go_wp2_with fail
        go_roundw
        case rel => exact ⟨k + 1, by omega, by go_num, HS5.out, HBq.out.setCell (Nat.le_refl _) _⟩
        case measure => simp [intOf]; omega
      · have HN := Lib.hid (tables.filled_nil (ws := ws) (b := b) (n := 4) hlt (by rw [HBit.out, hs]; rfl))
        rw [hs] at HT1
        clear hs HBit
        go_wp2_with fail
        go_region_held3 (fun w' => w'.cell? ⟨w.heap.size, 0, none⟩ = some (.slice p ws.length q) ∧ w'.cell? ⟨w.heap.size, 1, none⟩ = some (.int .i64 b) ∧ Below w1.heap.size w1 w') (first | assumption | exact ⟨y0, y1, HBl.out⟩ | exact ⟨y0, y1, HBl.out.drew⟩) (first | (go_at_call 133; refine Calls.mono (HT0.out _ (by assumption) (by first | exact HO.out | exact HO.out.drew)) ?_; rintro e wp ⟨qa, qc, rfl, hrd, hop, hbp⟩) | (go_at_call 183; refine Calls.mono (HT1.out _ _ _ (by assumption) hrd hop) ?_; rintro e wq ⟨rfl, hoq, hbx⟩))
        have HOq := Lib.hid hoq
        have HBq := Lib.hid hbx.2.2
        clear hop hoq hbx hbp hrd
        go_wp2_with fail
        go_roundw
        case rel => exact ⟨k + 1, by omega, by go_num, by rw [← HN.out]; exact HOq.out, HBq.out⟩
        case measure => simp [intOf]; omega
    · obtain rfl : k = 16 := by omega
      rw [tables.filled_all] at hown
      have HO := Lib.hid hown
      clear hown hbel
      go_wp2_with fail
      go_ret2
      exact ⟨_, rfl, (OwnI.of (by rw [tabTo_length]; exact HO.out)).mono hs1 (Nat.le_refl _), HB1.out.trans (HBl.out.mono hs1)⟩
theorem impl_yes (p : Option Addr) (ws : List Int) (q : Nat) (b : Int) (w : World) (hq : ints.Reads .i64 w p ws) (hn : ws.length ≤ 1048576) (h : Hid (planeB ws b = true)) :
    Calls Try.prog 144 #[.agg #[.slice p ws.length q, .int .i64 b]] w (RetIB (tab ws b) true w) := by
  have hA := ((planeB_iff _ _).1 h.out).2.2.1
  rcases len_cases h.out with hl | hl | hl | hl <;> rw [tab_at hl]
  · exact impl_yes_1 p ws q b w hq hn h (Lib.hid hl) hA
  · exact impl_yes_2 p ws q b w hq hn h (Lib.hid hl) hA
  · exact impl_yes_3 p ws q b w hq hn h (Lib.hid hl) hA
  · exact impl_yes_4 p ws q b w hq hn h (Lib.hid hl) hA
end Go.Proofs.Ytplhcboecjegjaa.planetable
