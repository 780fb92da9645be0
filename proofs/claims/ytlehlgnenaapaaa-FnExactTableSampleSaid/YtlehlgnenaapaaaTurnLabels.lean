/- The walks of the model's and the program's TurnLabels. -/
import Derived.Test.YtlehlgnenaapaaaChanged
import Derived.Test.YtlehlgnenaapaaaSamplesT
import Derived.Test.YtlehlgnenaapaaaMinus
import Derived.Deep.RegionHeld3
import Derived.Deep.DrawnRows
namespace Go.Proofs.Ytlehlgnenaapaaa.turnlabels
open Go.RowKit own pp nums samplesv samplest minus rowscopy changed samplefns
set_option linter.unusedVariables false
set_option linter.unusedSimpArgs false
attribute [local go_sem ↓] Go.wp_at_zero Go.wp_at_succ

theorem row_pos {rows : List (List Int)} {zs : List Int} (h : sampleB rows zs = true) (k : Nat) (hk : k < rows.length) : 0 < (rows.getD k []).length ∧ (rows.getD k []).length ≤ 4 := by
  have hr := all_at _ [] rows ((sampleB_iff _ _).1 h).2.2.2 k hk
  simp only [Bool.and_eq_true, decide_eq_true_eq] at hr
  have := (pointB_iff _).1 hr.1
  omega
theorem lab_big {rows : List (List Int)} {zs : List Int} (h : sampleB rows zs = true) : numsB 1000 zs = true := all_true _ 0 _ fun k hk => by
  have := (labelB_iff _).1 (all_at _ 0 zs ((sampleB_iff _ _).1 h).2.2.1 k hk)
  rw [inB_iff]; omega
set_option maxRecDepth 100000 in
set_option maxHeartbeats 4000000 in
theorem spec_no (a : Option Addr) (rows : List (List Int)) (c : Nat) (a' : Option Addr) (zs : List Int) (c' : Nat) (w : World) (hr : grid.Reads w a rows) (hz : ints.Reads .i64 w a' zs) (hn : (rows.length : Int) + (grid.tot rows : Int) ≤ 1048576) (hk : zs.length ≤ 1048576) (hm : ∀ r ∈ rows, r.length ≤ 1048576) (h : Hid (sampleB rows zs = false)) :
    Calls Try.prog 29 #[.agg #[.slice a rows.length c, .slice a' zs.length c']] w (RetSB [] [] false w) := by
  have HMM := Lib.hid hm
  clear hm
  have Hhr := Lib.hid hr
  have Hhz := Lib.hid hz
  clear hr hz
  go_enter Try.func29, Try.ntmps29
  go_wp2_with fail
  have x0_0 : (w.alloc (.cells #[.slice a rows.length c, .slice a' zs.length c'] 36)).cell? ⟨w.heap.size, 0, none⟩ = some (.slice a rows.length c) := cell_new _ _ _ (by simp) rfl
  have x0_1 : (w.alloc (.cells #[.slice a rows.length c, .slice a' zs.length c'] 36)).cell? ⟨w.heap.size, 1, none⟩ = some (.slice a' zs.length c') := cell_new _ _ _ (by simp) rfl
  have HB0 := Lib.hid (below_alloc w (.cells #[.slice a rows.length c, .slice a' zs.length c'] 36))
  replace x0_0 := cell_old (.cells #[.slice none 0 0, .slice none 0 0] 36) x0_0
  replace x0_1 := cell_old (.cells #[.slice none 0 0, .slice none 0 0] 36) x0_1
  have x1_0 : ((w.alloc (.cells #[.slice a rows.length c, .slice a' zs.length c'] 36)).alloc (.cells #[.slice none 0 0, .slice none 0 0] 36)).cell? ⟨w.heap.size + 1, 0, none⟩ = some (.slice none 0 0) := cell_new _ _ _ (by simp) rfl
  have x1_1 : ((w.alloc (.cells #[.slice a rows.length c, .slice a' zs.length c'] 36)).alloc (.cells #[.slice none 0 0, .slice none 0 0] 36)).cell? ⟨w.heap.size + 1, 1, none⟩ = some (.slice none 0 0) := cell_new _ _ _ (by simp) rfl
  have f1_0 : ((w.alloc (.cells #[.slice a rows.length c, .slice a' zs.length c'] 36)).alloc (.cells #[.slice none 0 0, .slice none 0 0] 36)).frozen? ⟨w.heap.size + 1, 0, none⟩ = false := fro_new _ _ _ (by simp)
  have f1_1 : ((w.alloc (.cells #[.slice a rows.length c, .slice a' zs.length c'] 36)).alloc (.cells #[.slice none 0 0, .slice none 0 0] 36)).frozen? ⟨w.heap.size + 1, 1, none⟩ = false := fro_new _ _ _ (by simp)
  replace HB0 := Lib.hid (HB0.out.alloc (by simp) (.cells #[.slice none 0 0, .slice none 0 0] 36))
  have s0 : w.heap.size + 2 ≤ ((w.alloc (.cells #[.slice a rows.length c, .slice a' zs.length c'] 36)).alloc (.cells #[.slice none 0 0, .slice none 0 0] 36)).heap.size := by simp
  generalize hw : ((w.alloc (.cells #[.slice a rows.length c, .slice a' zs.length c'] 36)).alloc (.cells #[.slice none 0 0, .slice none 0 0] 36)) = w0 at *
  clear hw
  have n0_0 : w.heap.size < w0.heap.size := by omega
  have n0_1 : w.heap.size + 1 < w0.heap.size := by omega
  refine (spec_sample a rows c a' zs c' _ (Hhr.out.below HB0.out) (Hhz.out.below HB0.out) (by omega) hk HMM.out false h).mono ?_
  rintro e w1 ⟨rfl, hb⟩
  have s1 : w0.heap.size ≤ w1.heap.size := hb.size
  have n1_0 : w.heap.size < w1.heap.size := by omega
  have n1_1 : w.heap.size + 1 < w1.heap.size := by omega
  replace x0_0 := cell_below hb x0_0 (by omega)
  replace x0_1 := cell_below hb x0_1 (by omega)
  replace x1_0 := cell_below hb x1_0 (by omega)
  replace x1_1 := cell_below hb x1_1 (by omega)
  replace f1_0 := fro_below hb f1_0 (by omega)
  replace f1_1 := fro_below hb f1_1 (by omega)
  have HB1 := Lib.hid (HB0.out.trans (hb.mono (by omega)))
  clear hb
  go_wp2_with fail
  refine bodyPost_ret (v := .tuple #[.agg #[.slice none 0 0, .slice none 0 0], .bool false]) (by simp [results, Try.results29, go_sem, x1_0, x1_1]) rfl ⟨_, _, rfl, OwnS.of (OwnG.nil w.heap.size 0 _) (OwnI.nil w.heap.size 0 _) (.inl (Nat.zero_le _)) (Nat.le_refl _) (Nat.le_refl _) (Nat.zero_le _) (Nat.zero_le _), ?_⟩
  exact ((HB1.out.setCell (by simp) _).setCell (by simp) _)
set_option maxRecDepth 100000 in
set_option maxHeartbeats 4000000 in
theorem spec_yes (a : Option Addr) (rows : List (List Int)) (c : Nat) (a' : Option Addr) (zs : List Int) (c' : Nat) (w : World) (hr : grid.Reads w a rows) (hz : ints.Reads .i64 w a' zs) (hn : (rows.length : Int) + (grid.tot rows : Int) ≤ 1048576) (hk : zs.length ≤ 1048576) (hm : ∀ r ∈ rows, r.length ≤ 1048576) (h : Hid (sampleB rows zs = true)) :
    Calls Try.prog 29 #[.agg #[.slice a rows.length c, .slice a' zs.length c']] w (RetSB rows (neg zs) true w) := by
  have HMM := Lib.hid hm
  clear hm
  have Hhr := Lib.hid hr
  have Hhz := Lib.hid hz
  clear hr hz
  go_enter Try.func29, Try.ntmps29
  go_wp2_with fail
  have x0_0 : (w.alloc (.cells #[.slice a rows.length c, .slice a' zs.length c'] 36)).cell? ⟨w.heap.size, 0, none⟩ = some (.slice a rows.length c) := cell_new _ _ _ (by simp) rfl
  have x0_1 : (w.alloc (.cells #[.slice a rows.length c, .slice a' zs.length c'] 36)).cell? ⟨w.heap.size, 1, none⟩ = some (.slice a' zs.length c') := cell_new _ _ _ (by simp) rfl
  have HB0 := Lib.hid (below_alloc w (.cells #[.slice a rows.length c, .slice a' zs.length c'] 36))
  replace x0_0 := cell_old (.cells #[.slice none 0 0, .slice none 0 0] 36) x0_0
  replace x0_1 := cell_old (.cells #[.slice none 0 0, .slice none 0 0] 36) x0_1
  have x1_0 : ((w.alloc (.cells #[.slice a rows.length c, .slice a' zs.length c'] 36)).alloc (.cells #[.slice none 0 0, .slice none 0 0] 36)).cell? ⟨w.heap.size + 1, 0, none⟩ = some (.slice none 0 0) := cell_new _ _ _ (by simp) rfl
  have x1_1 : ((w.alloc (.cells #[.slice a rows.length c, .slice a' zs.length c'] 36)).alloc (.cells #[.slice none 0 0, .slice none 0 0] 36)).cell? ⟨w.heap.size + 1, 1, none⟩ = some (.slice none 0 0) := cell_new _ _ _ (by simp) rfl
  have f1_0 : ((w.alloc (.cells #[.slice a rows.length c, .slice a' zs.length c'] 36)).alloc (.cells #[.slice none 0 0, .slice none 0 0] 36)).frozen? ⟨w.heap.size + 1, 0, none⟩ = false := fro_new _ _ _ (by simp)
  have f1_1 : ((w.alloc (.cells #[.slice a rows.length c, .slice a' zs.length c'] 36)).alloc (.cells #[.slice none 0 0, .slice none 0 0] 36)).frozen? ⟨w.heap.size + 1, 1, none⟩ = false := fro_new _ _ _ (by simp)
  replace HB0 := Lib.hid (HB0.out.alloc (by simp) (.cells #[.slice none 0 0, .slice none 0 0] 36))
  have s0 : w.heap.size + 2 ≤ ((w.alloc (.cells #[.slice a rows.length c, .slice a' zs.length c'] 36)).alloc (.cells #[.slice none 0 0, .slice none 0 0] 36)).heap.size := by simp
  generalize hw : ((w.alloc (.cells #[.slice a rows.length c, .slice a' zs.length c'] 36)).alloc (.cells #[.slice none 0 0, .slice none 0 0] 36)) = w0 at *
  clear hw
  have n0_0 : w.heap.size < w0.heap.size := by omega
  have n0_1 : w.heap.size + 1 < w0.heap.size := by omega
  refine (spec_sample a rows c a' zs c' _ (Hhr.out.below HB0.out) (Hhz.out.below HB0.out) (by omega) hk HMM.out true h).mono ?_
  rintro e w1 ⟨rfl, hb⟩
  have s1 : w0.heap.size ≤ w1.heap.size := hb.size
  have n1_0 : w.heap.size < w1.heap.size := by omega
  have n1_1 : w.heap.size + 1 < w1.heap.size := by omega
  replace x0_0 := cell_below hb x0_0 (by omega)
  replace x0_1 := cell_below hb x0_1 (by omega)
  replace x1_0 := cell_below hb x1_0 (by omega)
  replace x1_1 := cell_below hb x1_1 (by omega)
  replace f1_0 := fro_below hb f1_0 (by omega)
  replace f1_1 := fro_below hb f1_1 (by omega)
  have HB1 := Lib.hid (HB0.out.trans (hb.mono (by omega)))
  clear hb
  go_wp2_with fail
  have HT0 := Lib.hid (show ∀ (wa : World), (wa.cell? ⟨w.heap.size, 0, none⟩ = some (.slice a rows.length c) ∧ wa.cell? ⟨w.heap.size, 1, none⟩ = some (.slice a' zs.length c') ∧ w1.heap.size ≤ wa.heap.size ∧ Below w.heap.size w wa) → (wa.cell? ⟨w.heap.size + 1, 0, none⟩ = some (.slice none 0 0) ∧ wa.cell? ⟨w.heap.size + 1, 1, none⟩ = some (.slice none 0 0) ∧ wa.frozen? ⟨w.heap.size + 1, 0, none⟩ = false ∧ wa.frozen? ⟨w.heap.size + 1, 1, none⟩ = false) → Calls Try.prog 77 #[.slice a rows.length c] wa (fun e w' => ∃ (p1 : Option Addr) (q1 : Nat), e = .returned (.slice p1 rows.length q1) ∧ OwnG w1.heap.size w'.heap.size w' (.slice p1 rows.length q1) rows ∧ (w'.cell? ⟨w.heap.size + 1, 0, none⟩ = some (.slice none 0 0) ∧ w'.cell? ⟨w.heap.size + 1, 1, none⟩ = some (.slice none 0 0) ∧ w'.frozen? ⟨w.heap.size + 1, 0, none⟩ = false ∧ w'.frozen? ⟨w.heap.size + 1, 1, none⟩ = false) ∧ w'.cell? ⟨w.heap.size, 0, none⟩ = some (.slice a rows.length c) ∧ w'.cell? ⟨w.heap.size, 1, none⟩ = some (.slice a' zs.length c') ∧ w1.heap.size ≤ w'.heap.size ∧ Below w.heap.size w w') from fun wa  hS hQ  => by
    have hwz := hS.2.2.1
    have hB := hS.2.2.2
    refine (spec_copy a rows c wa (Hhr.out.below hB) hn (fun k hk => (row_pos h.out k hk).1)).mono ?_
    rintro e w' ⟨v, rfl, ho, hb⟩
    obtain ⟨p1, q1, rfl, _, _, _⟩ := ho.slice
    exact ⟨p1, q1, rfl, ho.mono hwz (Nat.le_refl _), ⟨cell_below hb hQ.1 (by omega), cell_below hb hQ.2.1 (by omega), fro_below hb hQ.2.2.1 (by omega), fro_below hb hQ.2.2.2 (by omega)⟩, cell_below hb hS.1 (by omega), cell_below hb hS.2.1 (by omega), Nat.le_trans hwz hb.size, hB.trans (hb.mono hB.size)⟩)
  have HT1 := Lib.hid (show ∀ (wa : World) (p1 : Option Addr) (q1 : Nat), (wa.cell? ⟨w.heap.size, 0, none⟩ = some (.slice a rows.length c) ∧ wa.cell? ⟨w.heap.size, 1, none⟩ = some (.slice a' zs.length c') ∧ w1.heap.size ≤ wa.heap.size ∧ Below w.heap.size w wa) → (wa.cell? ⟨w.heap.size + 1, 0, none⟩ = some (.slice none 0 0) ∧ wa.cell? ⟨w.heap.size + 1, 1, none⟩ = some (.slice none 0 0) ∧ wa.frozen? ⟨w.heap.size + 1, 0, none⟩ = false ∧ wa.frozen? ⟨w.heap.size + 1, 1, none⟩ = false) → OwnG w1.heap.size wa.heap.size wa (.slice p1 rows.length q1) rows → Calls Try.prog 78 #[.slice a' zs.length c'] wa (fun e w' => ∃ (p2 : Option Addr) (q2 : Nat), e = .returned (.slice p2 (neg zs).length q2) ∧ OwnS w1.heap.size w'.heap.size w' (.slice p1 rows.length q1) (.slice p2 (neg zs).length q2) rows (neg zs) ∧ (w'.cell? ⟨w.heap.size + 1, 0, none⟩ = some (.slice none 0 0) ∧ w'.cell? ⟨w.heap.size + 1, 1, none⟩ = some (.slice none 0 0) ∧ w'.frozen? ⟨w.heap.size + 1, 0, none⟩ = false ∧ w'.frozen? ⟨w.heap.size + 1, 1, none⟩ = false) ∧ w'.cell? ⟨w.heap.size, 0, none⟩ = some (.slice a rows.length c) ∧ w'.cell? ⟨w.heap.size, 1, none⟩ = some (.slice a' zs.length c') ∧ w1.heap.size ≤ w'.heap.size ∧ Below w.heap.size w w') from fun wa p1 q1 hS hQ k0 => by
    have hwz := hS.2.2.1
    have hB := hS.2.2.2
    refine (spec_minus a' zs c' wa (Hhz.out.below hB) hk (lab_big h.out)).mono ?_
    rintro e w' ⟨v, rfl, ho, hb⟩
    obtain ⟨p2, q2, rfl, _, _, _⟩ := ho.slice
    exact ⟨p2, q2, rfl, OwnS.of (k0.below hb) ho (.inl (Nat.le_refl _)) (Nat.le_refl _) hwz hb.size (Nat.le_refl _), ⟨cell_below hb hQ.1 (by omega), cell_below hb hQ.2.1 (by omega), fro_below hb hQ.2.2.1 (by omega), fro_below hb hQ.2.2.2 (by omega)⟩, cell_below hb hS.1 (by omega), cell_below hb hS.2.1 (by omega), Nat.le_trans hwz hb.size, hB.trans (hb.mono hB.size)⟩)
  go_region_held3 (fun w' => w'.cell? ⟨w.heap.size, 0, none⟩ = some (.slice a rows.length c) ∧ w'.cell? ⟨w.heap.size, 1, none⟩ = some (.slice a' zs.length c') ∧ w1.heap.size ≤ w'.heap.size ∧ Below w.heap.size w w') (first | assumption | exact ⟨x0_0, x0_1, Nat.le_refl _, HB1.out⟩ | exact ⟨x0_0, x0_1, Nat.le_refl _, HB1.out.drew⟩ | exact ⟨cell_set (cell_set hbx.1 (by first | (simp; done) | (simp; omega) | omega) _) (by first | (simp; done) | (simp; omega) | omega) _, cell_set (cell_set hbx.2.1 (by first | (simp; done) | (simp; omega) | omega) _) (by first | (simp; done) | (simp; omega) | omega) _, by rw [size_set, size_set]; exact hbx.2.2.1, (hbx.2.2.2.setCell (by simp) _).setCell (by simp) _⟩) (first | (go_at_call 77; refine Calls.mono (HT0.out _ (by assumption) (by exact ⟨x1_0, x1_1, f1_0, f1_1⟩)) ?_; rintro e v0 ⟨p1, q1, rfl, ho0_0, hq0, hbx⟩) | (go_at_call 78; refine Calls.mono (HT1.out _ _ _ (by assumption) hq0 ho0_0) ?_; rintro e v1 ⟨p2, q2, rfl, ho0_1, hq1, hbx⟩))
  have HO0 := Lib.hid ho0_1
  obtain ⟨g0, g1, g2, g3⟩ := hq1
  have HSZ := Lib.hid hbx.2.2.1
  have HBE := Lib.hid hbx.2.2.2
  go_wp2_with fail
  refine bodyPost_ret (v := .tuple #[.agg #[.slice p1 rows.length q1, .slice p2 (neg zs).length q2], .bool true]) (by simp [results, Try.results29, go_sem, g0, g1]) rfl ⟨_, _, rfl, ?_, ?_⟩
  · simp only [size_set]; exact ((HO0.out.set (by simp; omega) _).set (by simp; omega) _).mono (by omega) (Nat.le_refl _)
  · exact (HBE.out.setCell (by simp) _).setCell (by simp) _
set_option maxRecDepth 100000 in
set_option maxHeartbeats 4000000 in
theorem impl_no (a : Option Addr) (rows : List (List Int)) (c : Nat) (a' : Option Addr) (zs : List Int) (c' : Nat) (w : World) (hr : grid.Reads w a rows) (hz : ints.Reads .i64 w a' zs) (hn : (rows.length : Int) + (grid.tot rows : Int) ≤ 1048576) (hk : zs.length ≤ 1048576) (hm : ∀ r ∈ rows, r.length ≤ 1048576) (h : Hid (sampleB rows zs = false)) :
    Calls Try.prog 31 #[.agg #[.slice a rows.length c, .slice a' zs.length c']] w (RetSB [] [] false w) := by
  have HMM := Lib.hid hm
  clear hm
  have Hhr := Lib.hid hr
  have Hhz := Lib.hid hz
  clear hr hz
  go_enter Try.func31, Try.ntmps31
  go_wp2_with fail
  have x0_0 : (w.alloc (.cells #[.slice a rows.length c, .slice a' zs.length c'] 36)).cell? ⟨w.heap.size, 0, none⟩ = some (.slice a rows.length c) := cell_new _ _ _ (by simp) rfl
  have x0_1 : (w.alloc (.cells #[.slice a rows.length c, .slice a' zs.length c'] 36)).cell? ⟨w.heap.size, 1, none⟩ = some (.slice a' zs.length c') := cell_new _ _ _ (by simp) rfl
  have HB0 := Lib.hid (below_alloc w (.cells #[.slice a rows.length c, .slice a' zs.length c'] 36))
  replace x0_0 := cell_old (.cells #[.slice none 0 0, .slice none 0 0] 36) x0_0
  replace x0_1 := cell_old (.cells #[.slice none 0 0, .slice none 0 0] 36) x0_1
  have x1_0 : ((w.alloc (.cells #[.slice a rows.length c, .slice a' zs.length c'] 36)).alloc (.cells #[.slice none 0 0, .slice none 0 0] 36)).cell? ⟨w.heap.size + 1, 0, none⟩ = some (.slice none 0 0) := cell_new _ _ _ (by simp) rfl
  have x1_1 : ((w.alloc (.cells #[.slice a rows.length c, .slice a' zs.length c'] 36)).alloc (.cells #[.slice none 0 0, .slice none 0 0] 36)).cell? ⟨w.heap.size + 1, 1, none⟩ = some (.slice none 0 0) := cell_new _ _ _ (by simp) rfl
  have f1_0 : ((w.alloc (.cells #[.slice a rows.length c, .slice a' zs.length c'] 36)).alloc (.cells #[.slice none 0 0, .slice none 0 0] 36)).frozen? ⟨w.heap.size + 1, 0, none⟩ = false := fro_new _ _ _ (by simp)
  have f1_1 : ((w.alloc (.cells #[.slice a rows.length c, .slice a' zs.length c'] 36)).alloc (.cells #[.slice none 0 0, .slice none 0 0] 36)).frozen? ⟨w.heap.size + 1, 1, none⟩ = false := fro_new _ _ _ (by simp)
  replace HB0 := Lib.hid (HB0.out.alloc (by simp) (.cells #[.slice none 0 0, .slice none 0 0] 36))
  have s0 : w.heap.size + 2 ≤ ((w.alloc (.cells #[.slice a rows.length c, .slice a' zs.length c'] 36)).alloc (.cells #[.slice none 0 0, .slice none 0 0] 36)).heap.size := by simp
  generalize hw : ((w.alloc (.cells #[.slice a rows.length c, .slice a' zs.length c'] 36)).alloc (.cells #[.slice none 0 0, .slice none 0 0] 36)) = w0 at *
  clear hw
  have n0_0 : w.heap.size < w0.heap.size := by omega
  have n0_1 : w.heap.size + 1 < w0.heap.size := by omega
  refine (impl_sample a rows c a' zs c' _ (Hhr.out.below HB0.out) (Hhz.out.below HB0.out) (by omega) hk HMM.out false h).mono ?_
  rintro e w1 ⟨rfl, hb⟩
  have s1 : w0.heap.size ≤ w1.heap.size := hb.size
  have n1_0 : w.heap.size < w1.heap.size := by omega
  have n1_1 : w.heap.size + 1 < w1.heap.size := by omega
  replace x0_0 := cell_below hb x0_0 (by omega)
  replace x0_1 := cell_below hb x0_1 (by omega)
  replace x1_0 := cell_below hb x1_0 (by omega)
  replace x1_1 := cell_below hb x1_1 (by omega)
  replace f1_0 := fro_below hb f1_0 (by omega)
  replace f1_1 := fro_below hb f1_1 (by omega)
  have HB1 := Lib.hid (HB0.out.trans (hb.mono (by omega)))
  clear hb
  go_wp2_with fail
  refine bodyPost_ret (v := .tuple #[.agg #[.slice none 0 0, .slice none 0 0], .bool false]) (by simp [results, Try.results31, go_sem, x1_0, x1_1]) rfl ⟨_, _, rfl, OwnS.of (OwnG.nil w.heap.size 0 _) (OwnI.nil w.heap.size 0 _) (.inl (Nat.zero_le _)) (Nat.le_refl _) (Nat.le_refl _) (Nat.zero_le _) (Nat.zero_le _), ?_⟩
  exact ((HB1.out.setCell (by simp) _).setCell (by simp) _)
set_option maxRecDepth 100000 in
set_option maxHeartbeats 4000000 in
theorem impl_yes (a : Option Addr) (rows : List (List Int)) (c : Nat) (a' : Option Addr) (zs : List Int) (c' : Nat) (w : World) (hr : grid.Reads w a rows) (hz : ints.Reads .i64 w a' zs) (hn : (rows.length : Int) + (grid.tot rows : Int) ≤ 1048576) (hk : zs.length ≤ 1048576) (hm : ∀ r ∈ rows, r.length ≤ 1048576) (h : Hid (sampleB rows zs = true)) :
    Calls Try.prog 31 #[.agg #[.slice a rows.length c, .slice a' zs.length c']] w (RetSB rows (neg zs) true w) := by
  have HMM := Lib.hid hm
  clear hm
  have Hhr := Lib.hid hr
  have Hhz := Lib.hid hz
  clear hr hz
  go_enter Try.func31, Try.ntmps31
  go_wp2_with fail
  have x0_0 : (w.alloc (.cells #[.slice a rows.length c, .slice a' zs.length c'] 36)).cell? ⟨w.heap.size, 0, none⟩ = some (.slice a rows.length c) := cell_new _ _ _ (by simp) rfl
  have x0_1 : (w.alloc (.cells #[.slice a rows.length c, .slice a' zs.length c'] 36)).cell? ⟨w.heap.size, 1, none⟩ = some (.slice a' zs.length c') := cell_new _ _ _ (by simp) rfl
  have HB0 := Lib.hid (below_alloc w (.cells #[.slice a rows.length c, .slice a' zs.length c'] 36))
  replace x0_0 := cell_old (.cells #[.slice none 0 0, .slice none 0 0] 36) x0_0
  replace x0_1 := cell_old (.cells #[.slice none 0 0, .slice none 0 0] 36) x0_1
  have x1_0 : ((w.alloc (.cells #[.slice a rows.length c, .slice a' zs.length c'] 36)).alloc (.cells #[.slice none 0 0, .slice none 0 0] 36)).cell? ⟨w.heap.size + 1, 0, none⟩ = some (.slice none 0 0) := cell_new _ _ _ (by simp) rfl
  have x1_1 : ((w.alloc (.cells #[.slice a rows.length c, .slice a' zs.length c'] 36)).alloc (.cells #[.slice none 0 0, .slice none 0 0] 36)).cell? ⟨w.heap.size + 1, 1, none⟩ = some (.slice none 0 0) := cell_new _ _ _ (by simp) rfl
  have f1_0 : ((w.alloc (.cells #[.slice a rows.length c, .slice a' zs.length c'] 36)).alloc (.cells #[.slice none 0 0, .slice none 0 0] 36)).frozen? ⟨w.heap.size + 1, 0, none⟩ = false := fro_new _ _ _ (by simp)
  have f1_1 : ((w.alloc (.cells #[.slice a rows.length c, .slice a' zs.length c'] 36)).alloc (.cells #[.slice none 0 0, .slice none 0 0] 36)).frozen? ⟨w.heap.size + 1, 1, none⟩ = false := fro_new _ _ _ (by simp)
  replace HB0 := Lib.hid (HB0.out.alloc (by simp) (.cells #[.slice none 0 0, .slice none 0 0] 36))
  have s0 : w.heap.size + 2 ≤ ((w.alloc (.cells #[.slice a rows.length c, .slice a' zs.length c'] 36)).alloc (.cells #[.slice none 0 0, .slice none 0 0] 36)).heap.size := by simp
  generalize hw : ((w.alloc (.cells #[.slice a rows.length c, .slice a' zs.length c'] 36)).alloc (.cells #[.slice none 0 0, .slice none 0 0] 36)) = w0 at *
  clear hw
  have n0_0 : w.heap.size < w0.heap.size := by omega
  have n0_1 : w.heap.size + 1 < w0.heap.size := by omega
  refine (impl_sample a rows c a' zs c' _ (Hhr.out.below HB0.out) (Hhz.out.below HB0.out) (by omega) hk HMM.out true h).mono ?_
  rintro e w1 ⟨rfl, hb⟩
  have s1 : w0.heap.size ≤ w1.heap.size := hb.size
  have n1_0 : w.heap.size < w1.heap.size := by omega
  have n1_1 : w.heap.size + 1 < w1.heap.size := by omega
  replace x0_0 := cell_below hb x0_0 (by omega)
  replace x0_1 := cell_below hb x0_1 (by omega)
  replace x1_0 := cell_below hb x1_0 (by omega)
  replace x1_1 := cell_below hb x1_1 (by omega)
  replace f1_0 := fro_below hb f1_0 (by omega)
  replace f1_1 := fro_below hb f1_1 (by omega)
  have HB1 := Lib.hid (HB0.out.trans (hb.mono (by omega)))
  clear hb
  go_wp2_with fail
  have HCh := Lib.hid (show ∀ (k : Nat) (W : World) (p : Option Addr) (q : Nat), k < rows.length → Below w1.heap.size w1 W → ints.Reads .i64 W p (rows.getD k []) → Calls Try.prog 82 #[.slice p (rows.getD k []).length q] W (intfns.Made ((fun r => r) (rows.getD k [])) W) from fun k W p q hk' _ hrd => changed.clone_any p _ q W hrd (by have := (row_pos h.out k hk').2; omega))
  refine (changed.impl_clone (fun r => r) a rows c a' zs c' _ (Hhr.out.below HB1.out) (Hhz.out.below HB1.out) (by omega) hk HCh).mono ?_
  rintro e w2 ⟨pv, lv, rfl, ho, hb⟩
  obtain ⟨p1, q1, rfl, _, _, _⟩ := ho.grid.slice
  obtain ⟨p2, q2, rfl, _, _, _⟩ := ho.ints.slice
  have s2 : w1.heap.size ≤ w2.heap.size := hb.size
  have n2_0 : w.heap.size < w2.heap.size := by omega
  have n2_1 : w.heap.size + 1 < w2.heap.size := by omega
  replace x0_0 := cell_below hb x0_0 (by omega)
  replace x0_1 := cell_below hb x0_1 (by omega)
  replace x1_0 := cell_below hb x1_0 (by omega)
  replace x1_1 := cell_below hb x1_1 (by omega)
  replace f1_0 := fro_below hb f1_0 (by omega)
  replace f1_1 := fro_below hb f1_1 (by omega)
  have HB2 := Lib.hid (HB1.out.trans (hb.mono (by omega)))
  clear hb
  have HOS := Lib.hid ho
  clear ho
  go_wp2_with fail
  have t_0 : (w2.alloc (.cells #[.slice p1 rows.length q1, .slice p2 zs.length q2] 36)).cell? ⟨w2.heap.size, 0, none⟩ = some (.slice p1 rows.length q1) := cell_new _ _ _ rfl rfl
  have gt_0 : (w2.alloc (.cells #[.slice p1 rows.length q1, .slice p2 zs.length q2] 36)).frozen? ⟨w2.heap.size, 0, none⟩ = false := fro_new _ _ _ rfl
  have t_1 : (w2.alloc (.cells #[.slice p1 rows.length q1, .slice p2 zs.length q2] 36)).cell? ⟨w2.heap.size, 1, none⟩ = some (.slice p2 zs.length q2) := cell_new _ _ _ rfl rfl
  have gt_1 : (w2.alloc (.cells #[.slice p1 rows.length q1, .slice p2 zs.length q2] 36)).frozen? ⟨w2.heap.size, 1, none⟩ = false := fro_new _ _ _ rfl
  have hb := below_alloc w2 (.cells #[.slice p1 rows.length q1, .slice p2 zs.length q2] 36)
  have z3 := size_alloc' w2 (.cells #[.slice p1 rows.length q1, .slice p2 zs.length q2] 36)
  generalize hw : w2.alloc (.cells #[.slice p1 rows.length q1, .slice p2 zs.length q2] 36) = w3 at *
  clear hw
  have s3 : w2.heap.size ≤ w3.heap.size := hb.size
  have n3_0 : w.heap.size < w3.heap.size := by omega
  have n3_1 : w.heap.size + 1 < w3.heap.size := by omega
  replace x0_0 := cell_below hb x0_0 (by omega)
  replace x0_1 := cell_below hb x0_1 (by omega)
  replace x1_0 := cell_below hb x1_0 (by omega)
  replace x1_1 := cell_below hb x1_1 (by omega)
  replace f1_0 := fro_below hb f1_0 (by omega)
  replace f1_1 := fro_below hb f1_1 (by omega)
  replace HOS := Lib.hid (HOS.out.below hb)
  have HB3 := Lib.hid (HB2.out.trans (hb.mono (by omega)))
  clear hb
  have nb3 : w2.heap.size < w3.heap.size := by omega
  refine (impl_minus a' zs c' _ (Hhz.out.below HB3.out) hk (lab_big h.out)).mono ?_
  rintro e w4 ⟨v, rfl, ho2, hb⟩
  obtain ⟨p3, q3, rfl, _, _, _⟩ := ho2.slice
  have HN := Lib.hid ho2
  clear ho2
  have s4 : w3.heap.size ≤ w4.heap.size := hb.size
  have n4_0 : w.heap.size < w4.heap.size := by omega
  have n4_1 : w.heap.size + 1 < w4.heap.size := by omega
  have n4_2 : w2.heap.size < w4.heap.size := by omega
  replace x0_0 := cell_below hb x0_0 (by omega)
  replace x0_1 := cell_below hb x0_1 (by omega)
  replace x1_0 := cell_below hb x1_0 (by omega)
  replace x1_1 := cell_below hb x1_1 (by omega)
  replace t_0 := cell_below hb t_0 (by omega)
  replace t_1 := cell_below hb t_1 (by omega)
  replace f1_0 := fro_below hb f1_0 (by omega)
  replace f1_1 := fro_below hb f1_1 (by omega)
  replace gt_0 := fro_below hb gt_0 (by omega)
  replace gt_1 := fro_below hb gt_1 (by omega)
  replace HOS := Lib.hid (HOS.out.below hb)
  have HB4 := Lib.hid (HB3.out.trans (hb.mono (by omega)))
  clear hb
  go_wp2_with fail
  refine bodyPost_ret (v := .tuple #[.agg #[.slice p1 rows.length q1, .slice p3 (neg zs).length q3], .bool true]) (by simp [results, Try.results31, go_sem, x1_0, x1_1, t_0, t_1]) rfl ⟨_, _, rfl, ?_, ?_⟩
  · have G := HOS.out.grid
    rw [List.map_id'] at G
    have G2 := ((G.block' (w' := w4.setCell ⟨w2.heap.size, 1, none⟩ (Value.slice p3 (neg zs).length q3)) (fun g h1 h2 => Below.heap_setCell _ _ _ _ (by simp; omega)) (by simp)).set (a := ⟨w.heap.size + 1, 0, none⟩) (by simp; omega) (.slice p1 rows.length q1)).set (a := ⟨w.heap.size + 1, 1, none⟩) (by simp; omega) (.slice p3 (neg zs).length q3)
    have I2 := ((HN.out.set (a := ⟨w2.heap.size, 1, none⟩) (by simp; omega) (.slice p3 (neg zs).length q3)).set (a := ⟨w.heap.size + 1, 0, none⟩) (by simp; omega) (.slice p1 rows.length q1)).set (a := ⟨w.heap.size + 1, 1, none⟩) (by simp; omega) (.slice p3 (neg zs).length q3)
    exact OwnS.of G2 I2 (.inl (by omega)) (by omega) (by omega) (by simp only [size_set]; omega) (by simp only [size_set]; omega)
  · exact ((HB4.out.setCell (by simp; omega) _).setCell (by simp) _).setCell (by simp) _
end Go.Proofs.Ytlehlgnenaapaaa.turnlabels
