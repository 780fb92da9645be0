/- The walks of the model's and the program's TurnPlane. -/
import Derived.Test.YtoephhhofkmgjaaKept
namespace Go.Proofs.Ytoephhhofkmgjaa.turnplane
open Go.RowKit own pp nums planes minus kept
set_option linter.unusedVariables false
set_option linter.unusedSimpArgs false

theorem planeB_big {zs : List Int} {b : Int} (h : planeB zs b = true) : numsB 1000 zs = true := all_true _ 0 _ fun k hk => by
  have := numsB_at ((planeB_iff _ _).1 h).2.2.1 k hk
  rw [inB_iff]; omega
theorem planeB_b {zs : List Int} {b : Int} (h : planeB zs b = true) : -99 ≤ b ∧ b ≤ 99 := (inB_iff _ _).1 ((planeB_iff _ _).1 h).2.2.2
theorem planeB_l {zs : List Int} {b : Int} (h : planeB zs b = true) : zs.length ≤ 4 := ((planeB_iff _ _).1 h).2.1

set_option maxHeartbeats 1000000 in
theorem spec_no (a : Option Addr) (zs : List Int) (c : Nat) (b : Int) (w : World) (hr : ints.Reads .i64 w a zs) (hn : zs.length ≤ 1048576) (h : Hid (planeB zs b = false)) :
    Calls Try.prog 84 #[.agg #[.slice a zs.length c, .int .i64 b]] w (RetPB [] 0 false w) := by
  have Hhr := Lib.hid hr
  clear hr
  go_enter Try.func84, Try.ntmps84
  go_wp2_with fail
  have x0_0 : (w.alloc (.cells #[.slice a zs.length c, .int .i64 b] 86)).cell? ⟨w.heap.size, 0, none⟩ = some (.slice a zs.length c) := cell_new _ _ _ (by simp) rfl
  have x0_1 : (w.alloc (.cells #[.slice a zs.length c, .int .i64 b] 86)).cell? ⟨w.heap.size, 1, none⟩ = some (.int .i64 b) := cell_new _ _ _ (by simp) rfl
  have HB0 := Lib.hid (below_alloc w (.cells #[.slice a zs.length c, .int .i64 b] 86))
  replace x0_0 := cell_old (.cells #[.slice none 0 0, .int .i64 0] 86) x0_0
  replace x0_1 := cell_old (.cells #[.slice none 0 0, .int .i64 0] 86) x0_1
  have x1_0 : ((w.alloc (.cells #[.slice a zs.length c, .int .i64 b] 86)).alloc (.cells #[.slice none 0 0, .int .i64 0] 86)).cell? ⟨w.heap.size + 1, 0, none⟩ = some (.slice none 0 0) := cell_new _ _ _ (by simp) rfl
  have x1_1 : ((w.alloc (.cells #[.slice a zs.length c, .int .i64 b] 86)).alloc (.cells #[.slice none 0 0, .int .i64 0] 86)).cell? ⟨w.heap.size + 1, 1, none⟩ = some (.int .i64 0) := cell_new _ _ _ (by simp) rfl
  have f1_0 : ((w.alloc (.cells #[.slice a zs.length c, .int .i64 b] 86)).alloc (.cells #[.slice none 0 0, .int .i64 0] 86)).frozen? ⟨w.heap.size + 1, 0, none⟩ = false := fro_new _ _ _ (by simp)
  have f1_1 : ((w.alloc (.cells #[.slice a zs.length c, .int .i64 b] 86)).alloc (.cells #[.slice none 0 0, .int .i64 0] 86)).frozen? ⟨w.heap.size + 1, 1, none⟩ = false := fro_new _ _ _ (by simp)
  replace HB0 := Lib.hid (HB0.out.alloc (by simp) (.cells #[.slice none 0 0, .int .i64 0] 86))
  have s0 : w.heap.size + 2 ≤ ((w.alloc (.cells #[.slice a zs.length c, .int .i64 b] 86)).alloc (.cells #[.slice none 0 0, .int .i64 0] 86)).heap.size := by simp
  generalize hw : ((w.alloc (.cells #[.slice a zs.length c, .int .i64 b] 86)).alloc (.cells #[.slice none 0 0, .int .i64 0] 86)) = w0 at *
  clear hw
  have n0_0 : w.heap.size < w0.heap.size := by omega
  have n0_1 : w.heap.size + 1 < w0.heap.size := by omega
  refine (spec_plane a zs c b _ (Hhr.out.below HB0.out) hn false h).mono ?_
  rintro e w1 ⟨rfl, hb⟩
  have s1 : w0.heap.size ≤ w1.heap.size := hb.size
  have n1_0 : w.heap.size < w1.heap.size := by omega
  have n1_1 : w.heap.size + 1 < w1.heap.size := by omega
  replace x0_0 := cell_below hb x0_0 (by omega)
  replace x0_1 := cell_below hb x0_1 (by omega)
  replace x1_0 := cell_below hb x1_0 (by omega)
  replace x1_1 := cell_below hb x1_1 (by omega)
  replace f1_0 := fro_below hb f1_0 (by omega)
  replace f1_1 := fro_below hb f1_1 (by omega)
  have HB1 := Lib.hid (HB0.out.trans (hb.mono (by omega)))
  clear hb
  go_wp2_with fail
  refine bodyPost_ret (v := .tuple #[.agg #[.slice none 0 0, .int .i64 0], .bool false]) (by simp [results, Try.results84, go_sem, x1_0, x1_1]) rfl ⟨_, rfl, OwnI.nil _ _ _, ?_⟩
  exact ((HB1.out.setCell (by simp) _).setCell (by simp) _)
set_option maxRecDepth 100000 in
set_option maxHeartbeats 4000000 in
theorem spec_out (a : Option Addr) (zs : List Int) (c : Nat) (b : Int) (w : World) (hr : ints.Reads .i64 w a zs) (hn : zs.length ≤ 1048576) (h : Hid (planeB zs b = true)) (hK : Hid (planeB (neg zs) (1 - b) = false)) :
    Calls Try.prog 84 #[.agg #[.slice a zs.length c, .int .i64 b]] w (RetPB [] 0 false w) := by
  have Hhr := Lib.hid hr
  clear hr
  go_enter Try.func84, Try.ntmps84
  go_wp2_with fail
  have x0_0 : (w.alloc (.cells #[.slice a zs.length c, .int .i64 b] 86)).cell? ⟨w.heap.size, 0, none⟩ = some (.slice a zs.length c) := cell_new _ _ _ (by simp) rfl
  have x0_1 : (w.alloc (.cells #[.slice a zs.length c, .int .i64 b] 86)).cell? ⟨w.heap.size, 1, none⟩ = some (.int .i64 b) := cell_new _ _ _ (by simp) rfl
  have HB0 := Lib.hid (below_alloc w (.cells #[.slice a zs.length c, .int .i64 b] 86))
  replace x0_0 := cell_old (.cells #[.slice none 0 0, .int .i64 0] 86) x0_0
  replace x0_1 := cell_old (.cells #[.slice none 0 0, .int .i64 0] 86) x0_1
  have x1_0 : ((w.alloc (.cells #[.slice a zs.length c, .int .i64 b] 86)).alloc (.cells #[.slice none 0 0, .int .i64 0] 86)).cell? ⟨w.heap.size + 1, 0, none⟩ = some (.slice none 0 0) := cell_new _ _ _ (by simp) rfl
  have x1_1 : ((w.alloc (.cells #[.slice a zs.length c, .int .i64 b] 86)).alloc (.cells #[.slice none 0 0, .int .i64 0] 86)).cell? ⟨w.heap.size + 1, 1, none⟩ = some (.int .i64 0) := cell_new _ _ _ (by simp) rfl
  have f1_0 : ((w.alloc (.cells #[.slice a zs.length c, .int .i64 b] 86)).alloc (.cells #[.slice none 0 0, .int .i64 0] 86)).frozen? ⟨w.heap.size + 1, 0, none⟩ = false := fro_new _ _ _ (by simp)
  have f1_1 : ((w.alloc (.cells #[.slice a zs.length c, .int .i64 b] 86)).alloc (.cells #[.slice none 0 0, .int .i64 0] 86)).frozen? ⟨w.heap.size + 1, 1, none⟩ = false := fro_new _ _ _ (by simp)
  replace HB0 := Lib.hid (HB0.out.alloc (by simp) (.cells #[.slice none 0 0, .int .i64 0] 86))
  have s0 : w.heap.size + 2 ≤ ((w.alloc (.cells #[.slice a zs.length c, .int .i64 b] 86)).alloc (.cells #[.slice none 0 0, .int .i64 0] 86)).heap.size := by simp
  generalize hw : ((w.alloc (.cells #[.slice a zs.length c, .int .i64 b] 86)).alloc (.cells #[.slice none 0 0, .int .i64 0] 86)) = w0 at *
  clear hw
  have n0_0 : w.heap.size < w0.heap.size := by omega
  have n0_1 : w.heap.size + 1 < w0.heap.size := by omega
  refine (spec_plane a zs c b _ (Hhr.out.below HB0.out) hn true h).mono ?_
  rintro e w1 ⟨rfl, hb⟩
  have s1 : w0.heap.size ≤ w1.heap.size := hb.size
  have n1_0 : w.heap.size < w1.heap.size := by omega
  have n1_1 : w.heap.size + 1 < w1.heap.size := by omega
  replace x0_0 := cell_below hb x0_0 (by omega)
  replace x0_1 := cell_below hb x0_1 (by omega)
  replace x1_0 := cell_below hb x1_0 (by omega)
  replace x1_1 := cell_below hb x1_1 (by omega)
  replace f1_0 := fro_below hb f1_0 (by omega)
  replace f1_1 := fro_below hb f1_1 (by omega)
  have HB1 := Lib.hid (HB0.out.trans (hb.mono (by omega)))
  clear hb
  go_wp2_with fail
  have HT0 := Lib.hid (show ∀ wa : World, (wa.cell? ⟨w.heap.size, 0, none⟩ = some (.slice a zs.length c) ∧ wa.cell? ⟨w.heap.size, 1, none⟩ = some (.int .i64 b) ∧ wa.cell? ⟨w.heap.size + 1, 0, none⟩ = some (.slice none 0 0) ∧ wa.cell? ⟨w.heap.size + 1, 1, none⟩ = some (.int .i64 0) ∧ wa.frozen? ⟨w.heap.size + 1, 0, none⟩ = false ∧ wa.frozen? ⟨w.heap.size + 1, 1, none⟩ = false ∧ Below w1.heap.size w1 wa) → Calls Try.prog 119 #[.slice a zs.length c] wa fun e w' => ∃ p q, e = .returned (.slice p (neg zs).length q) ∧ OwnI w1.heap.size w'.heap.size w' (.slice p (neg zs).length q) (neg zs) ∧ w'.cell? ⟨w.heap.size, 0, none⟩ = some (.slice a zs.length c) ∧ w'.cell? ⟨w.heap.size, 1, none⟩ = some (.int .i64 b) ∧ w'.cell? ⟨w.heap.size + 1, 0, none⟩ = some (.slice none 0 0) ∧ w'.cell? ⟨w.heap.size + 1, 1, none⟩ = some (.int .i64 0) ∧ w'.frozen? ⟨w.heap.size + 1, 0, none⟩ = false ∧ w'.frozen? ⟨w.heap.size + 1, 1, none⟩ = false ∧ Below w1.heap.size w1 w' from fun wa hS => by
    have hwz := hS.2.2.2.2.2.2.size
    have hB := HB1.out.trans (hS.2.2.2.2.2.2.mono (by omega))
    refine (spec_minus a zs c wa (Hhr.out.below hB) hn (planeB_big h.out)).mono ?_
    rintro e w' ⟨v, rfl, ho, hb⟩
    obtain ⟨p, q, rfl, _, _, _⟩ := ho.slice
    exact ⟨p, q, rfl, ho.mono hwz (Nat.le_refl _), cell_below hb hS.1 (by omega), cell_below hb hS.2.1 (by omega), cell_below hb hS.2.2.1 (by omega), cell_below hb hS.2.2.2.1 (by omega), fro_below hb hS.2.2.2.2.1 (by omega), fro_below hb hS.2.2.2.2.2.1 (by omega), hS.2.2.2.2.2.2.trans (hb.mono (by omega))⟩)
  have HT1 := Lib.hid (show ∀ (wa : World) (p : Option Addr) (q : Nat), (wa.cell? ⟨w.heap.size, 0, none⟩ = some (.slice a zs.length c) ∧ wa.cell? ⟨w.heap.size, 1, none⟩ = some (.int .i64 b) ∧ wa.cell? ⟨w.heap.size + 1, 0, none⟩ = some (.slice none 0 0) ∧ wa.cell? ⟨w.heap.size + 1, 1, none⟩ = some (.int .i64 0) ∧ wa.frozen? ⟨w.heap.size + 1, 0, none⟩ = false ∧ wa.frozen? ⟨w.heap.size + 1, 1, none⟩ = false ∧ Below w1.heap.size w1 wa) → OwnI w1.heap.size wa.heap.size wa (.slice p (neg zs).length q) (neg zs) → Calls Try.prog 118 #[.agg #[.slice p (neg zs).length q, .int .i64 (1 - b)]] wa fun e w' => e = .returned (.tuple #[.agg #[.slice none 0 0, .int .i64 0], .bool false]) ∧ OwnI w1.heap.size w'.heap.size w' (.slice p (neg zs).length q) (neg zs) ∧ w'.cell? ⟨w.heap.size, 0, none⟩ = some (.slice a zs.length c) ∧ w'.cell? ⟨w.heap.size, 1, none⟩ = some (.int .i64 b) ∧ w'.cell? ⟨w.heap.size + 1, 0, none⟩ = some (.slice none 0 0) ∧ w'.cell? ⟨w.heap.size + 1, 1, none⟩ = some (.int .i64 0) ∧ w'.frozen? ⟨w.heap.size + 1, 0, none⟩ = false ∧ w'.frozen? ⟨w.heap.size + 1, 1, none⟩ = false ∧ Below w1.heap.size w1 w' from fun wa p q hS ho => by
    have hwz := hS.2.2.2.2.2.2.size
    refine (spec_kept_no p (neg zs) q (1 - b) wa ho.reads (by rw [neg_length]; exact hn) hK).mono ?_
    rintro e w' ⟨rfl, hb⟩
    exact ⟨rfl, (ho.below hb).mono (Nat.le_refl _) hb.size, cell_below hb hS.1 (by omega), cell_below hb hS.2.1 (by omega), cell_below hb hS.2.2.1 (by omega), cell_below hb hS.2.2.2.1 (by omega), fro_below hb hS.2.2.2.2.1 (by omega), fro_below hb hS.2.2.2.2.2.1 (by omega), hS.2.2.2.2.2.2.trans (hb.mono (by omega))⟩)
  have hbb := planeB_b h.out
  have e1 : IntKind.i64.wrap (1 - b) = 1 - b := IntWalk.i64_in _ (by omega)
  go_region_with (first | (go_at_call 119; refine Calls.mono (HT0.out _ ?_) ?_; (first | exact ⟨x0_0, x0_1, x1_0, x1_1, f1_0, f1_1, Below.refl _ _⟩ | exact ⟨x0_0, x0_1, x1_0, x1_1, f1_0, f1_1, (Below.refl _ _).drew⟩); rintro e v0 ⟨p, q, rfl, ho, y0, y1, y2, y3, y4, y5, hb0⟩; have HO0 := Lib.hid ho; have HH0 := Lib.hid hb0; clear ho hb0) | (go_at_call 118; refine Calls.mono (HT1.out _ _ _ ?_ ?_) ?_; (first | exact ⟨y0, y1, y2, y3, y4, y5, HH0.out⟩ | exact ⟨y0, y1, y2, y3, y4, y5, HH0.out.drew⟩); (first | exact HO0.out); rintro e v1 ⟨rfl, ho, z0, z1, z2, z3, z4, z5, hb1⟩; have HO1 := Lib.hid ho; have HH1 := Lib.hid hb1; clear ho hb1))
  all_goals (go_wp2_with fail; refine bodyPost_ret (v := .tuple #[.agg #[.slice none 0 0, .int .i64 0], .bool false]) (by simp [results, Try.results84, go_sem, z2, z3]) rfl ⟨_, rfl, ?_, ?_⟩)
  all_goals first | exact OwnI.nil _ _ _ | exact ((HB1.out.trans (HH1.out.mono (by omega))).setCell (by simp) _).setCell (by simp) _
set_option maxRecDepth 100000 in
set_option maxHeartbeats 4000000 in
theorem spec_yes (a : Option Addr) (zs : List Int) (c : Nat) (b : Int) (w : World) (hr : ints.Reads .i64 w a zs) (hn : zs.length ≤ 1048576) (h : Hid (planeB zs b = true)) (hK : Hid (planeB (neg zs) (1 - b) = true)) :
    Calls Try.prog 84 #[.agg #[.slice a zs.length c, .int .i64 b]] w (RetPB (neg zs) (1 - b) true w) := by
  have Hhr := Lib.hid hr
  clear hr
  go_enter Try.func84, Try.ntmps84
  go_wp2_with fail
  have x0_0 : (w.alloc (.cells #[.slice a zs.length c, .int .i64 b] 86)).cell? ⟨w.heap.size, 0, none⟩ = some (.slice a zs.length c) := cell_new _ _ _ (by simp) rfl
  have x0_1 : (w.alloc (.cells #[.slice a zs.length c, .int .i64 b] 86)).cell? ⟨w.heap.size, 1, none⟩ = some (.int .i64 b) := cell_new _ _ _ (by simp) rfl
  have HB0 := Lib.hid (below_alloc w (.cells #[.slice a zs.length c, .int .i64 b] 86))
  replace x0_0 := cell_old (.cells #[.slice none 0 0, .int .i64 0] 86) x0_0
  replace x0_1 := cell_old (.cells #[.slice none 0 0, .int .i64 0] 86) x0_1
  have x1_0 : ((w.alloc (.cells #[.slice a zs.length c, .int .i64 b] 86)).alloc (.cells #[.slice none 0 0, .int .i64 0] 86)).cell? ⟨w.heap.size + 1, 0, none⟩ = some (.slice none 0 0) := cell_new _ _ _ (by simp) rfl
  have x1_1 : ((w.alloc (.cells #[.slice a zs.length c, .int .i64 b] 86)).alloc (.cells #[.slice none 0 0, .int .i64 0] 86)).cell? ⟨w.heap.size + 1, 1, none⟩ = some (.int .i64 0) := cell_new _ _ _ (by simp) rfl
  have f1_0 : ((w.alloc (.cells #[.slice a zs.length c, .int .i64 b] 86)).alloc (.cells #[.slice none 0 0, .int .i64 0] 86)).frozen? ⟨w.heap.size + 1, 0, none⟩ = false := fro_new _ _ _ (by simp)
  have f1_1 : ((w.alloc (.cells #[.slice a zs.length c, .int .i64 b] 86)).alloc (.cells #[.slice none 0 0, .int .i64 0] 86)).frozen? ⟨w.heap.size + 1, 1, none⟩ = false := fro_new _ _ _ (by simp)
  replace HB0 := Lib.hid (HB0.out.alloc (by simp) (.cells #[.slice none 0 0, .int .i64 0] 86))
  have s0 : w.heap.size + 2 ≤ ((w.alloc (.cells #[.slice a zs.length c, .int .i64 b] 86)).alloc (.cells #[.slice none 0 0, .int .i64 0] 86)).heap.size := by simp
  generalize hw : ((w.alloc (.cells #[.slice a zs.length c, .int .i64 b] 86)).alloc (.cells #[.slice none 0 0, .int .i64 0] 86)) = w0 at *
  clear hw
  have n0_0 : w.heap.size < w0.heap.size := by omega
  have n0_1 : w.heap.size + 1 < w0.heap.size := by omega
  refine (spec_plane a zs c b _ (Hhr.out.below HB0.out) hn true h).mono ?_
  rintro e w1 ⟨rfl, hb⟩
  have s1 : w0.heap.size ≤ w1.heap.size := hb.size
  have n1_0 : w.heap.size < w1.heap.size := by omega
  have n1_1 : w.heap.size + 1 < w1.heap.size := by omega
  replace x0_0 := cell_below hb x0_0 (by omega)
  replace x0_1 := cell_below hb x0_1 (by omega)
  replace x1_0 := cell_below hb x1_0 (by omega)
  replace x1_1 := cell_below hb x1_1 (by omega)
  replace f1_0 := fro_below hb f1_0 (by omega)
  replace f1_1 := fro_below hb f1_1 (by omega)
  have HB1 := Lib.hid (HB0.out.trans (hb.mono (by omega)))
  clear hb
  go_wp2_with fail
  have HT0 := Lib.hid (show ∀ wa : World, (wa.cell? ⟨w.heap.size, 0, none⟩ = some (.slice a zs.length c) ∧ wa.cell? ⟨w.heap.size, 1, none⟩ = some (.int .i64 b) ∧ wa.cell? ⟨w.heap.size + 1, 0, none⟩ = some (.slice none 0 0) ∧ wa.cell? ⟨w.heap.size + 1, 1, none⟩ = some (.int .i64 0) ∧ wa.frozen? ⟨w.heap.size + 1, 0, none⟩ = false ∧ wa.frozen? ⟨w.heap.size + 1, 1, none⟩ = false ∧ Below w1.heap.size w1 wa) → Calls Try.prog 119 #[.slice a zs.length c] wa fun e w' => ∃ p q, e = .returned (.slice p (neg zs).length q) ∧ OwnI w1.heap.size w'.heap.size w' (.slice p (neg zs).length q) (neg zs) ∧ w'.cell? ⟨w.heap.size, 0, none⟩ = some (.slice a zs.length c) ∧ w'.cell? ⟨w.heap.size, 1, none⟩ = some (.int .i64 b) ∧ w'.cell? ⟨w.heap.size + 1, 0, none⟩ = some (.slice none 0 0) ∧ w'.cell? ⟨w.heap.size + 1, 1, none⟩ = some (.int .i64 0) ∧ w'.frozen? ⟨w.heap.size + 1, 0, none⟩ = false ∧ w'.frozen? ⟨w.heap.size + 1, 1, none⟩ = false ∧ Below w1.heap.size w1 w' from fun wa hS => by
    have hwz := hS.2.2.2.2.2.2.size
    have hB := HB1.out.trans (hS.2.2.2.2.2.2.mono (by omega))
    refine (spec_minus a zs c wa (Hhr.out.below hB) hn (planeB_big h.out)).mono ?_
    rintro e w' ⟨v, rfl, ho, hb⟩
    obtain ⟨p, q, rfl, _, _, _⟩ := ho.slice
    exact ⟨p, q, rfl, ho.mono hwz (Nat.le_refl _), cell_below hb hS.1 (by omega), cell_below hb hS.2.1 (by omega), cell_below hb hS.2.2.1 (by omega), cell_below hb hS.2.2.2.1 (by omega), fro_below hb hS.2.2.2.2.1 (by omega), fro_below hb hS.2.2.2.2.2.1 (by omega), hS.2.2.2.2.2.2.trans (hb.mono (by omega))⟩)
  have HT1 := Lib.hid (show ∀ (wa : World) (p : Option Addr) (q : Nat), (wa.cell? ⟨w.heap.size, 0, none⟩ = some (.slice a zs.length c) ∧ wa.cell? ⟨w.heap.size, 1, none⟩ = some (.int .i64 b) ∧ wa.cell? ⟨w.heap.size + 1, 0, none⟩ = some (.slice none 0 0) ∧ wa.cell? ⟨w.heap.size + 1, 1, none⟩ = some (.int .i64 0) ∧ wa.frozen? ⟨w.heap.size + 1, 0, none⟩ = false ∧ wa.frozen? ⟨w.heap.size + 1, 1, none⟩ = false ∧ Below w1.heap.size w1 wa) → OwnI w1.heap.size wa.heap.size wa (.slice p (neg zs).length q) (neg zs) → Calls Try.prog 118 #[.agg #[.slice p (neg zs).length q, .int .i64 (1 - b)]] wa fun e w' => e = .returned (.tuple #[.agg #[.slice p (neg zs).length q, .int .i64 (1 - b)], .bool true]) ∧ OwnI w1.heap.size w'.heap.size w' (.slice p (neg zs).length q) (neg zs) ∧ w'.cell? ⟨w.heap.size, 0, none⟩ = some (.slice a zs.length c) ∧ w'.cell? ⟨w.heap.size, 1, none⟩ = some (.int .i64 b) ∧ w'.cell? ⟨w.heap.size + 1, 0, none⟩ = some (.slice none 0 0) ∧ w'.cell? ⟨w.heap.size + 1, 1, none⟩ = some (.int .i64 0) ∧ w'.frozen? ⟨w.heap.size + 1, 0, none⟩ = false ∧ w'.frozen? ⟨w.heap.size + 1, 1, none⟩ = false ∧ Below w1.heap.size w1 w' from fun wa p q hS ho => by
    have hwz := hS.2.2.2.2.2.2.size
    refine (spec_kept_yes p (neg zs) q (1 - b) wa ho.reads (by rw [neg_length]; exact hn) hK).mono ?_
    rintro e w' ⟨rfl, hb⟩
    exact ⟨rfl, (ho.below hb).mono (Nat.le_refl _) hb.size, cell_below hb hS.1 (by omega), cell_below hb hS.2.1 (by omega), cell_below hb hS.2.2.1 (by omega), cell_below hb hS.2.2.2.1 (by omega), fro_below hb hS.2.2.2.2.1 (by omega), fro_below hb hS.2.2.2.2.2.1 (by omega), hS.2.2.2.2.2.2.trans (hb.mono (by omega))⟩)
  have hbb := planeB_b h.out
  have e1 : IntKind.i64.wrap (1 - b) = 1 - b := IntWalk.i64_in _ (by omega)
  go_region_with (first | (go_at_call 119; refine Calls.mono (HT0.out _ ?_) ?_; (first | exact ⟨x0_0, x0_1, x1_0, x1_1, f1_0, f1_1, Below.refl _ _⟩ | exact ⟨x0_0, x0_1, x1_0, x1_1, f1_0, f1_1, (Below.refl _ _).drew⟩); rintro e v0 ⟨p, q, rfl, ho, y0, y1, y2, y3, y4, y5, hb0⟩; have HO0 := Lib.hid ho; have HH0 := Lib.hid hb0; clear ho hb0) | (go_at_call 118; refine Calls.mono (HT1.out _ _ _ ?_ ?_) ?_; (first | exact ⟨y0, y1, y2, y3, y4, y5, HH0.out⟩ | exact ⟨y0, y1, y2, y3, y4, y5, HH0.out.drew⟩); (first | exact HO0.out); rintro e v1 ⟨rfl, ho, z0, z1, z2, z3, z4, z5, hb1⟩; have HO1 := Lib.hid ho; have HH1 := Lib.hid hb1; clear ho hb1))
  all_goals (go_wp2_with fail; refine bodyPost_ret (v := .tuple #[.agg #[.slice p (neg zs).length q, .int .i64 (1 - b)], .bool true]) (by simp [results, Try.results84, go_sem, z2, z3]) rfl ⟨_, rfl, ?_, ?_⟩)
  all_goals first | (simp only [size_set]; exact ((HO1.out.set (by simp; omega) _).set (by simp; omega) _).mono (by omega) (Nat.le_refl _)) | exact ((HB1.out.trans (HH1.out.mono (by omega))).setCell (by simp) _).setCell (by simp) _
set_option maxHeartbeats 1000000 in
theorem impl_no (a : Option Addr) (zs : List Int) (c : Nat) (b : Int) (w : World) (hr : ints.Reads .i64 w a zs) (hn : zs.length ≤ 1048576) (h : Hid (planeB zs b = false)) :
    Calls Try.prog 86 #[.agg #[.slice a zs.length c, .int .i64 b]] w (RetPB [] 0 false w) := by
  have Hhr := Lib.hid hr
  clear hr
  go_enter Try.func86, Try.ntmps86
  go_wp2_with fail
  have x0_0 : (w.alloc (.cells #[.slice a zs.length c, .int .i64 b] 86)).cell? ⟨w.heap.size, 0, none⟩ = some (.slice a zs.length c) := cell_new _ _ _ (by simp) rfl
  have x0_1 : (w.alloc (.cells #[.slice a zs.length c, .int .i64 b] 86)).cell? ⟨w.heap.size, 1, none⟩ = some (.int .i64 b) := cell_new _ _ _ (by simp) rfl
  have HB0 := Lib.hid (below_alloc w (.cells #[.slice a zs.length c, .int .i64 b] 86))
  replace x0_0 := cell_old (.cells #[.slice none 0 0, .int .i64 0] 86) x0_0
  replace x0_1 := cell_old (.cells #[.slice none 0 0, .int .i64 0] 86) x0_1
  have x1_0 : ((w.alloc (.cells #[.slice a zs.length c, .int .i64 b] 86)).alloc (.cells #[.slice none 0 0, .int .i64 0] 86)).cell? ⟨w.heap.size + 1, 0, none⟩ = some (.slice none 0 0) := cell_new _ _ _ (by simp) rfl
  have x1_1 : ((w.alloc (.cells #[.slice a zs.length c, .int .i64 b] 86)).alloc (.cells #[.slice none 0 0, .int .i64 0] 86)).cell? ⟨w.heap.size + 1, 1, none⟩ = some (.int .i64 0) := cell_new _ _ _ (by simp) rfl
  have f1_0 : ((w.alloc (.cells #[.slice a zs.length c, .int .i64 b] 86)).alloc (.cells #[.slice none 0 0, .int .i64 0] 86)).frozen? ⟨w.heap.size + 1, 0, none⟩ = false := fro_new _ _ _ (by simp)
  have f1_1 : ((w.alloc (.cells #[.slice a zs.length c, .int .i64 b] 86)).alloc (.cells #[.slice none 0 0, .int .i64 0] 86)).frozen? ⟨w.heap.size + 1, 1, none⟩ = false := fro_new _ _ _ (by simp)
  replace HB0 := Lib.hid (HB0.out.alloc (by simp) (.cells #[.slice none 0 0, .int .i64 0] 86))
  have s0 : w.heap.size + 2 ≤ ((w.alloc (.cells #[.slice a zs.length c, .int .i64 b] 86)).alloc (.cells #[.slice none 0 0, .int .i64 0] 86)).heap.size := by simp
  generalize hw : ((w.alloc (.cells #[.slice a zs.length c, .int .i64 b] 86)).alloc (.cells #[.slice none 0 0, .int .i64 0] 86)) = w0 at *
  clear hw
  have n0_0 : w.heap.size < w0.heap.size := by omega
  have n0_1 : w.heap.size + 1 < w0.heap.size := by omega
  refine (impl_plane a zs c b _ (Hhr.out.below HB0.out) hn false h).mono ?_
  rintro e w1 ⟨rfl, hb⟩
  have s1 : w0.heap.size ≤ w1.heap.size := hb.size
  have n1_0 : w.heap.size < w1.heap.size := by omega
  have n1_1 : w.heap.size + 1 < w1.heap.size := by omega
  replace x0_0 := cell_below hb x0_0 (by omega)
  replace x0_1 := cell_below hb x0_1 (by omega)
  replace x1_0 := cell_below hb x1_0 (by omega)
  replace x1_1 := cell_below hb x1_1 (by omega)
  replace f1_0 := fro_below hb f1_0 (by omega)
  replace f1_1 := fro_below hb f1_1 (by omega)
  have HB1 := Lib.hid (HB0.out.trans (hb.mono (by omega)))
  clear hb
  go_wp2_with fail
  refine bodyPost_ret (v := .tuple #[.agg #[.slice none 0 0, .int .i64 0], .bool false]) (by simp [results, Try.results86, go_sem, x1_0, x1_1]) rfl ⟨_, rfl, OwnI.nil _ _ _, ?_⟩
  exact ((HB1.out.setCell (by simp) _).setCell (by simp) _)
set_option maxRecDepth 100000 in
set_option maxHeartbeats 4000000 in
theorem impl_out (a : Option Addr) (zs : List Int) (c : Nat) (b : Int) (w : World) (hr : ints.Reads .i64 w a zs) (hn : zs.length ≤ 1048576) (h : Hid (planeB zs b = true)) (hK : Hid (planeB (neg zs) (1 - b) = false)) :
    Calls Try.prog 86 #[.agg #[.slice a zs.length c, .int .i64 b]] w (RetPB [] 0 false w) := by
  have Hhr := Lib.hid hr
  clear hr
  go_enter Try.func86, Try.ntmps86
  go_wp2_with fail
  have x0_0 : (w.alloc (.cells #[.slice a zs.length c, .int .i64 b] 86)).cell? ⟨w.heap.size, 0, none⟩ = some (.slice a zs.length c) := cell_new _ _ _ (by simp) rfl
  have x0_1 : (w.alloc (.cells #[.slice a zs.length c, .int .i64 b] 86)).cell? ⟨w.heap.size, 1, none⟩ = some (.int .i64 b) := cell_new _ _ _ (by simp) rfl
  have HB0 := Lib.hid (below_alloc w (.cells #[.slice a zs.length c, .int .i64 b] 86))
  replace x0_0 := cell_old (.cells #[.slice none 0 0, .int .i64 0] 86) x0_0
  replace x0_1 := cell_old (.cells #[.slice none 0 0, .int .i64 0] 86) x0_1
  have x1_0 : ((w.alloc (.cells #[.slice a zs.length c, .int .i64 b] 86)).alloc (.cells #[.slice none 0 0, .int .i64 0] 86)).cell? ⟨w.heap.size + 1, 0, none⟩ = some (.slice none 0 0) := cell_new _ _ _ (by simp) rfl
  have x1_1 : ((w.alloc (.cells #[.slice a zs.length c, .int .i64 b] 86)).alloc (.cells #[.slice none 0 0, .int .i64 0] 86)).cell? ⟨w.heap.size + 1, 1, none⟩ = some (.int .i64 0) := cell_new _ _ _ (by simp) rfl
  have f1_0 : ((w.alloc (.cells #[.slice a zs.length c, .int .i64 b] 86)).alloc (.cells #[.slice none 0 0, .int .i64 0] 86)).frozen? ⟨w.heap.size + 1, 0, none⟩ = false := fro_new _ _ _ (by simp)
  have f1_1 : ((w.alloc (.cells #[.slice a zs.length c, .int .i64 b] 86)).alloc (.cells #[.slice none 0 0, .int .i64 0] 86)).frozen? ⟨w.heap.size + 1, 1, none⟩ = false := fro_new _ _ _ (by simp)
  replace HB0 := Lib.hid (HB0.out.alloc (by simp) (.cells #[.slice none 0 0, .int .i64 0] 86))
  have s0 : w.heap.size + 2 ≤ ((w.alloc (.cells #[.slice a zs.length c, .int .i64 b] 86)).alloc (.cells #[.slice none 0 0, .int .i64 0] 86)).heap.size := by simp
  generalize hw : ((w.alloc (.cells #[.slice a zs.length c, .int .i64 b] 86)).alloc (.cells #[.slice none 0 0, .int .i64 0] 86)) = w0 at *
  clear hw
  have n0_0 : w.heap.size < w0.heap.size := by omega
  have n0_1 : w.heap.size + 1 < w0.heap.size := by omega
  refine (impl_plane a zs c b _ (Hhr.out.below HB0.out) hn true h).mono ?_
  rintro e w1 ⟨rfl, hb⟩
  have s1 : w0.heap.size ≤ w1.heap.size := hb.size
  have n1_0 : w.heap.size < w1.heap.size := by omega
  have n1_1 : w.heap.size + 1 < w1.heap.size := by omega
  replace x0_0 := cell_below hb x0_0 (by omega)
  replace x0_1 := cell_below hb x0_1 (by omega)
  replace x1_0 := cell_below hb x1_0 (by omega)
  replace x1_1 := cell_below hb x1_1 (by omega)
  replace f1_0 := fro_below hb f1_0 (by omega)
  replace f1_1 := fro_below hb f1_1 (by omega)
  have HB1 := Lib.hid (HB0.out.trans (hb.mono (by omega)))
  clear hb
  go_wp2_with fail
  have HT0 := Lib.hid (show ∀ wa : World, (wa.cell? ⟨w.heap.size, 0, none⟩ = some (.slice a zs.length c) ∧ wa.cell? ⟨w.heap.size, 1, none⟩ = some (.int .i64 b) ∧ wa.cell? ⟨w.heap.size + 1, 0, none⟩ = some (.slice none 0 0) ∧ wa.cell? ⟨w.heap.size + 1, 1, none⟩ = some (.int .i64 0) ∧ wa.frozen? ⟨w.heap.size + 1, 0, none⟩ = false ∧ wa.frozen? ⟨w.heap.size + 1, 1, none⟩ = false ∧ Below w1.heap.size w1 wa) → Calls Try.prog 121 #[.slice a zs.length c] wa fun e w' => ∃ p q, e = .returned (.slice p (neg zs).length q) ∧ OwnI w1.heap.size w'.heap.size w' (.slice p (neg zs).length q) (neg zs) ∧ w'.cell? ⟨w.heap.size, 0, none⟩ = some (.slice a zs.length c) ∧ w'.cell? ⟨w.heap.size, 1, none⟩ = some (.int .i64 b) ∧ w'.cell? ⟨w.heap.size + 1, 0, none⟩ = some (.slice none 0 0) ∧ w'.cell? ⟨w.heap.size + 1, 1, none⟩ = some (.int .i64 0) ∧ w'.frozen? ⟨w.heap.size + 1, 0, none⟩ = false ∧ w'.frozen? ⟨w.heap.size + 1, 1, none⟩ = false ∧ Below w1.heap.size w1 w' from fun wa hS => by
    have hwz := hS.2.2.2.2.2.2.size
    have hB := HB1.out.trans (hS.2.2.2.2.2.2.mono (by omega))
    refine (impl_minus a zs c wa (Hhr.out.below hB) hn (planeB_big h.out)).mono ?_
    rintro e w' ⟨v, rfl, ho, hb⟩
    obtain ⟨p, q, rfl, _, _, _⟩ := ho.slice
    exact ⟨p, q, rfl, ho.mono hwz (Nat.le_refl _), cell_below hb hS.1 (by omega), cell_below hb hS.2.1 (by omega), cell_below hb hS.2.2.1 (by omega), cell_below hb hS.2.2.2.1 (by omega), fro_below hb hS.2.2.2.2.1 (by omega), fro_below hb hS.2.2.2.2.2.1 (by omega), hS.2.2.2.2.2.2.trans (hb.mono (by omega))⟩)
  have HT1 := Lib.hid (show ∀ (wa : World) (p : Option Addr) (q : Nat), (wa.cell? ⟨w.heap.size, 0, none⟩ = some (.slice a zs.length c) ∧ wa.cell? ⟨w.heap.size, 1, none⟩ = some (.int .i64 b) ∧ wa.cell? ⟨w.heap.size + 1, 0, none⟩ = some (.slice none 0 0) ∧ wa.cell? ⟨w.heap.size + 1, 1, none⟩ = some (.int .i64 0) ∧ wa.frozen? ⟨w.heap.size + 1, 0, none⟩ = false ∧ wa.frozen? ⟨w.heap.size + 1, 1, none⟩ = false ∧ Below w1.heap.size w1 wa) → OwnI w1.heap.size wa.heap.size wa (.slice p (neg zs).length q) (neg zs) → Calls Try.prog 120 #[.agg #[.slice p (neg zs).length q, .int .i64 (1 - b)]] wa fun e w' => e = .returned (.tuple #[.agg #[.slice none 0 0, .int .i64 0], .bool false]) ∧ OwnI w1.heap.size w'.heap.size w' (.slice p (neg zs).length q) (neg zs) ∧ w'.cell? ⟨w.heap.size, 0, none⟩ = some (.slice a zs.length c) ∧ w'.cell? ⟨w.heap.size, 1, none⟩ = some (.int .i64 b) ∧ w'.cell? ⟨w.heap.size + 1, 0, none⟩ = some (.slice none 0 0) ∧ w'.cell? ⟨w.heap.size + 1, 1, none⟩ = some (.int .i64 0) ∧ w'.frozen? ⟨w.heap.size + 1, 0, none⟩ = false ∧ w'.frozen? ⟨w.heap.size + 1, 1, none⟩ = false ∧ Below w1.heap.size w1 w' from fun wa p q hS ho => by
    have hwz := hS.2.2.2.2.2.2.size
    refine (impl_kept_no p (neg zs) q (1 - b) wa ho.reads (by rw [neg_length]; exact hn) hK).mono ?_
    rintro e w' ⟨rfl, hb⟩
    exact ⟨rfl, (ho.below hb).mono (Nat.le_refl _) hb.size, cell_below hb hS.1 (by omega), cell_below hb hS.2.1 (by omega), cell_below hb hS.2.2.1 (by omega), cell_below hb hS.2.2.2.1 (by omega), fro_below hb hS.2.2.2.2.1 (by omega), fro_below hb hS.2.2.2.2.2.1 (by omega), hS.2.2.2.2.2.2.trans (hb.mono (by omega))⟩)
  have hbb := planeB_b h.out
  have e1 : IntKind.i64.wrap (1 - b) = 1 - b := IntWalk.i64_in _ (by omega)
  go_region_with (first | (go_at_call 121; refine Calls.mono (HT0.out _ ?_) ?_; (first | exact ⟨x0_0, x0_1, x1_0, x1_1, f1_0, f1_1, Below.refl _ _⟩ | exact ⟨x0_0, x0_1, x1_0, x1_1, f1_0, f1_1, (Below.refl _ _).drew⟩); rintro e v0 ⟨p, q, rfl, ho, y0, y1, y2, y3, y4, y5, hb0⟩; have HO0 := Lib.hid ho; have HH0 := Lib.hid hb0; clear ho hb0) | (go_at_call 120; refine Calls.mono (HT1.out _ _ _ ?_ ?_) ?_; (first | exact ⟨y0, y1, y2, y3, y4, y5, HH0.out⟩ | exact ⟨y0, y1, y2, y3, y4, y5, HH0.out.drew⟩); (first | exact HO0.out); rintro e v1 ⟨rfl, ho, z0, z1, z2, z3, z4, z5, hb1⟩; have HO1 := Lib.hid ho; have HH1 := Lib.hid hb1; clear ho hb1))
  all_goals (go_wp2_with fail; refine bodyPost_ret (v := .tuple #[.agg #[.slice none 0 0, .int .i64 0], .bool false]) (by simp [results, Try.results86, go_sem, z2, z3]) rfl ⟨_, rfl, ?_, ?_⟩)
  all_goals first | exact OwnI.nil _ _ _ | exact ((HB1.out.trans (HH1.out.mono (by omega))).setCell (by simp) _).setCell (by simp) _
set_option maxRecDepth 100000 in
set_option maxHeartbeats 4000000 in
theorem impl_yes (a : Option Addr) (zs : List Int) (c : Nat) (b : Int) (w : World) (hr : ints.Reads .i64 w a zs) (hn : zs.length ≤ 1048576) (h : Hid (planeB zs b = true)) (hK : Hid (planeB (neg zs) (1 - b) = true)) :
    Calls Try.prog 86 #[.agg #[.slice a zs.length c, .int .i64 b]] w (RetPB (neg zs) (1 - b) true w) := by
  have Hhr := Lib.hid hr
  clear hr
  go_enter Try.func86, Try.ntmps86
  go_wp2_with fail
  have x0_0 : (w.alloc (.cells #[.slice a zs.length c, .int .i64 b] 86)).cell? ⟨w.heap.size, 0, none⟩ = some (.slice a zs.length c) := cell_new _ _ _ (by simp) rfl
  have x0_1 : (w.alloc (.cells #[.slice a zs.length c, .int .i64 b] 86)).cell? ⟨w.heap.size, 1, none⟩ = some (.int .i64 b) := cell_new _ _ _ (by simp) rfl
  have HB0 := Lib.hid (below_alloc w (.cells #[.slice a zs.length c, .int .i64 b] 86))
  replace x0_0 := cell_old (.cells #[.slice none 0 0, .int .i64 0] 86) x0_0
  replace x0_1 := cell_old (.cells #[.slice none 0 0, .int .i64 0] 86) x0_1
  have x1_0 : ((w.alloc (.cells #[.slice a zs.length c, .int .i64 b] 86)).alloc (.cells #[.slice none 0 0, .int .i64 0] 86)).cell? ⟨w.heap.size + 1, 0, none⟩ = some (.slice none 0 0) := cell_new _ _ _ (by simp) rfl
  have x1_1 : ((w.alloc (.cells #[.slice a zs.length c, .int .i64 b] 86)).alloc (.cells #[.slice none 0 0, .int .i64 0] 86)).cell? ⟨w.heap.size + 1, 1, none⟩ = some (.int .i64 0) := cell_new _ _ _ (by simp) rfl
  have f1_0 : ((w.alloc (.cells #[.slice a zs.length c, .int .i64 b] 86)).alloc (.cells #[.slice none 0 0, .int .i64 0] 86)).frozen? ⟨w.heap.size + 1, 0, none⟩ = false := fro_new _ _ _ (by simp)
  have f1_1 : ((w.alloc (.cells #[.slice a zs.length c, .int .i64 b] 86)).alloc (.cells #[.slice none 0 0, .int .i64 0] 86)).frozen? ⟨w.heap.size + 1, 1, none⟩ = false := fro_new _ _ _ (by simp)
  replace HB0 := Lib.hid (HB0.out.alloc (by simp) (.cells #[.slice none 0 0, .int .i64 0] 86))
  have s0 : w.heap.size + 2 ≤ ((w.alloc (.cells #[.slice a zs.length c, .int .i64 b] 86)).alloc (.cells #[.slice none 0 0, .int .i64 0] 86)).heap.size := by simp
  generalize hw : ((w.alloc (.cells #[.slice a zs.length c, .int .i64 b] 86)).alloc (.cells #[.slice none 0 0, .int .i64 0] 86)) = w0 at *
  clear hw
  have n0_0 : w.heap.size < w0.heap.size := by omega
  have n0_1 : w.heap.size + 1 < w0.heap.size := by omega
  refine (impl_plane a zs c b _ (Hhr.out.below HB0.out) hn true h).mono ?_
  rintro e w1 ⟨rfl, hb⟩
  have s1 : w0.heap.size ≤ w1.heap.size := hb.size
  have n1_0 : w.heap.size < w1.heap.size := by omega
  have n1_1 : w.heap.size + 1 < w1.heap.size := by omega
  replace x0_0 := cell_below hb x0_0 (by omega)
  replace x0_1 := cell_below hb x0_1 (by omega)
  replace x1_0 := cell_below hb x1_0 (by omega)
  replace x1_1 := cell_below hb x1_1 (by omega)
  replace f1_0 := fro_below hb f1_0 (by omega)
  replace f1_1 := fro_below hb f1_1 (by omega)
  have HB1 := Lib.hid (HB0.out.trans (hb.mono (by omega)))
  clear hb
  go_wp2_with fail
  have HT0 := Lib.hid (show ∀ wa : World, (wa.cell? ⟨w.heap.size, 0, none⟩ = some (.slice a zs.length c) ∧ wa.cell? ⟨w.heap.size, 1, none⟩ = some (.int .i64 b) ∧ wa.cell? ⟨w.heap.size + 1, 0, none⟩ = some (.slice none 0 0) ∧ wa.cell? ⟨w.heap.size + 1, 1, none⟩ = some (.int .i64 0) ∧ wa.frozen? ⟨w.heap.size + 1, 0, none⟩ = false ∧ wa.frozen? ⟨w.heap.size + 1, 1, none⟩ = false ∧ Below w1.heap.size w1 wa) → Calls Try.prog 121 #[.slice a zs.length c] wa fun e w' => ∃ p q, e = .returned (.slice p (neg zs).length q) ∧ OwnI w1.heap.size w'.heap.size w' (.slice p (neg zs).length q) (neg zs) ∧ w'.cell? ⟨w.heap.size, 0, none⟩ = some (.slice a zs.length c) ∧ w'.cell? ⟨w.heap.size, 1, none⟩ = some (.int .i64 b) ∧ w'.cell? ⟨w.heap.size + 1, 0, none⟩ = some (.slice none 0 0) ∧ w'.cell? ⟨w.heap.size + 1, 1, none⟩ = some (.int .i64 0) ∧ w'.frozen? ⟨w.heap.size + 1, 0, none⟩ = false ∧ w'.frozen? ⟨w.heap.size + 1, 1, none⟩ = false ∧ Below w1.heap.size w1 w' from fun wa hS => by
    have hwz := hS.2.2.2.2.2.2.size
    have hB := HB1.out.trans (hS.2.2.2.2.2.2.mono (by omega))
    refine (impl_minus a zs c wa (Hhr.out.below hB) hn (planeB_big h.out)).mono ?_
    rintro e w' ⟨v, rfl, ho, hb⟩
    obtain ⟨p, q, rfl, _, _, _⟩ := ho.slice
    exact ⟨p, q, rfl, ho.mono hwz (Nat.le_refl _), cell_below hb hS.1 (by omega), cell_below hb hS.2.1 (by omega), cell_below hb hS.2.2.1 (by omega), cell_below hb hS.2.2.2.1 (by omega), fro_below hb hS.2.2.2.2.1 (by omega), fro_below hb hS.2.2.2.2.2.1 (by omega), hS.2.2.2.2.2.2.trans (hb.mono (by omega))⟩)
  have HT1 := Lib.hid (show ∀ (wa : World) (p : Option Addr) (q : Nat), (wa.cell? ⟨w.heap.size, 0, none⟩ = some (.slice a zs.length c) ∧ wa.cell? ⟨w.heap.size, 1, none⟩ = some (.int .i64 b) ∧ wa.cell? ⟨w.heap.size + 1, 0, none⟩ = some (.slice none 0 0) ∧ wa.cell? ⟨w.heap.size + 1, 1, none⟩ = some (.int .i64 0) ∧ wa.frozen? ⟨w.heap.size + 1, 0, none⟩ = false ∧ wa.frozen? ⟨w.heap.size + 1, 1, none⟩ = false ∧ Below w1.heap.size w1 wa) → OwnI w1.heap.size wa.heap.size wa (.slice p (neg zs).length q) (neg zs) → Calls Try.prog 120 #[.agg #[.slice p (neg zs).length q, .int .i64 (1 - b)]] wa fun e w' => e = .returned (.tuple #[.agg #[.slice p (neg zs).length q, .int .i64 (1 - b)], .bool true]) ∧ OwnI w1.heap.size w'.heap.size w' (.slice p (neg zs).length q) (neg zs) ∧ w'.cell? ⟨w.heap.size, 0, none⟩ = some (.slice a zs.length c) ∧ w'.cell? ⟨w.heap.size, 1, none⟩ = some (.int .i64 b) ∧ w'.cell? ⟨w.heap.size + 1, 0, none⟩ = some (.slice none 0 0) ∧ w'.cell? ⟨w.heap.size + 1, 1, none⟩ = some (.int .i64 0) ∧ w'.frozen? ⟨w.heap.size + 1, 0, none⟩ = false ∧ w'.frozen? ⟨w.heap.size + 1, 1, none⟩ = false ∧ Below w1.heap.size w1 w' from fun wa p q hS ho => by
    have hwz := hS.2.2.2.2.2.2.size
    refine (impl_kept_yes p (neg zs) q (1 - b) wa ho.reads (by rw [neg_length]; exact hn) hK).mono ?_
    rintro e w' ⟨rfl, hb⟩
    exact ⟨rfl, (ho.below hb).mono (Nat.le_refl _) hb.size, cell_below hb hS.1 (by omega), cell_below hb hS.2.1 (by omega), cell_below hb hS.2.2.1 (by omega), cell_below hb hS.2.2.2.1 (by omega), fro_below hb hS.2.2.2.2.1 (by omega), fro_below hb hS.2.2.2.2.2.1 (by omega), hS.2.2.2.2.2.2.trans (hb.mono (by omega))⟩)
  have hbb := planeB_b h.out
  have e1 : IntKind.i64.wrap (1 - b) = 1 - b := IntWalk.i64_in _ (by omega)
  go_region_with (first | (go_at_call 121; refine Calls.mono (HT0.out _ ?_) ?_; (first | exact ⟨x0_0, x0_1, x1_0, x1_1, f1_0, f1_1, Below.refl _ _⟩ | exact ⟨x0_0, x0_1, x1_0, x1_1, f1_0, f1_1, (Below.refl _ _).drew⟩); rintro e v0 ⟨p, q, rfl, ho, y0, y1, y2, y3, y4, y5, hb0⟩; have HO0 := Lib.hid ho; have HH0 := Lib.hid hb0; clear ho hb0) | (go_at_call 120; refine Calls.mono (HT1.out _ _ _ ?_ ?_) ?_; (first | exact ⟨y0, y1, y2, y3, y4, y5, HH0.out⟩ | exact ⟨y0, y1, y2, y3, y4, y5, HH0.out.drew⟩); (first | exact HO0.out); rintro e v1 ⟨rfl, ho, z0, z1, z2, z3, z4, z5, hb1⟩; have HO1 := Lib.hid ho; have HH1 := Lib.hid hb1; clear ho hb1))
  all_goals (go_wp2_with fail; refine bodyPost_ret (v := .tuple #[.agg #[.slice p (neg zs).length q, .int .i64 (1 - b)], .bool true]) (by simp [results, Try.results86, go_sem, z2, z3]) rfl ⟨_, rfl, ?_, ?_⟩)
  all_goals first | (simp only [size_set]; exact ((HO1.out.set (by simp; omega) _).set (by simp; omega) _).mono (by omega) (Nat.le_refl _)) | exact ((HB1.out.trans (HH1.out.mono (by omega))).setCell (by simp) _).setCell (by simp) _
end Go.Proofs.Ytoephhhofkmgjaa.turnplane
