/- The walks of the model's and the program's MovePlane. -/
import Derived.Test.YtlehlgnenaapaaaKept
import Derived.Test.YtlehlgnenaapaaaOwn1
import Derived.Test.YtlehlgnenaapaaaOnes
import Derived.Test.YtlehlgnenaapaaaSetCell
import Derived.Test.YtlehlgnenaapaaaMargin
import Derived.Deep.RegionHeld3
import Derived.Deep.DrawnRows
namespace Go.Proofs.Ytlehlgnenaapaaa.moveplane
open Go.RowKit own pp nums planes dots ones kept
set_option linter.unusedVariables false
set_option linter.unusedSimpArgs false
attribute [local go_sem ↓] Go.wp_at_zero Go.wp_at_succ

theorem one_bd {ws : List Int} {b : Int} {ys : List Int} (h : oneB ws b ys = true) : (-99 ≤ b ∧ b ≤ 99) ∧ -3564 ≤ dot ws ys ∧ dot ws ys ≤ 3564 ∧ 1 ≤ ws.length := by
  obtain ⟨h1, h2, h3⟩ := (oneB_iff _ _ _).1 h
  obtain ⟨p1, p2, p3, p4⟩ := (planeB_iff _ _).1 h1
  have := margin.dot_bd4 p3 ((pointB_iff _).1 h2).2.2 p2 (by omega)
  exact ⟨(inB_iff _ _).1 p4, this.1, this.2, p1⟩
set_option maxRecDepth 100000 in
set_option maxHeartbeats 4000000 in
theorem spec_no (a : Option Addr) (ws : List Int) (c : Nat) (b : Int) (a' : Option Addr) (ys : List Int) (c' : Nat) (w : World) (hr : ints.Reads .i64 w a ws) (hq : ints.Reads .i64 w a' ys) (hn : ws.length ≤ 1048576) (hm : ys.length ≤ 1048576) (h : Hid (oneB ws b ys = false)) :
    Calls Try.prog 41 #[.agg #[.slice a ws.length c, .int .i64 b], .slice a' ys.length c'] w (RetPB [] 0 false w) := by
  have Hhr := Lib.hid hr
  have Hhq := Lib.hid hq
  clear hr hq
  go_enter Try.func41, Try.ntmps41
  go_wp2_with fail
  have x0_0 : (w.alloc (.cells #[.slice a ws.length c, .int .i64 b] 26)).cell? ⟨w.heap.size, 0, none⟩ = some (.slice a ws.length c) := cell_new _ _ _ (by simp) rfl
  have x0_1 : (w.alloc (.cells #[.slice a ws.length c, .int .i64 b] 26)).cell? ⟨w.heap.size, 1, none⟩ = some (.int .i64 b) := cell_new _ _ _ (by simp) rfl
  have HB0 := Lib.hid (below_alloc w (.cells #[.slice a ws.length c, .int .i64 b] 26))
  replace x0_0 := cell_old (.cells #[.slice none 0 0, .int .i64 0] 26) x0_0
  replace x0_1 := cell_old (.cells #[.slice none 0 0, .int .i64 0] 26) x0_1
  have x1_0 : ((w.alloc (.cells #[.slice a ws.length c, .int .i64 b] 26)).alloc (.cells #[.slice none 0 0, .int .i64 0] 26)).cell? ⟨w.heap.size + 1, 0, none⟩ = some (.slice none 0 0) := cell_new _ _ _ (by simp) rfl
  have x1_1 : ((w.alloc (.cells #[.slice a ws.length c, .int .i64 b] 26)).alloc (.cells #[.slice none 0 0, .int .i64 0] 26)).cell? ⟨w.heap.size + 1, 1, none⟩ = some (.int .i64 0) := cell_new _ _ _ (by simp) rfl
  have f1_0 : ((w.alloc (.cells #[.slice a ws.length c, .int .i64 b] 26)).alloc (.cells #[.slice none 0 0, .int .i64 0] 26)).frozen? ⟨w.heap.size + 1, 0, none⟩ = false := fro_new _ _ _ (by simp)
  have f1_1 : ((w.alloc (.cells #[.slice a ws.length c, .int .i64 b] 26)).alloc (.cells #[.slice none 0 0, .int .i64 0] 26)).frozen? ⟨w.heap.size + 1, 1, none⟩ = false := fro_new _ _ _ (by simp)
  replace HB0 := Lib.hid (HB0.out.alloc (by simp) (.cells #[.slice none 0 0, .int .i64 0] 26))
  have s0 : w.heap.size + 2 ≤ ((w.alloc (.cells #[.slice a ws.length c, .int .i64 b] 26)).alloc (.cells #[.slice none 0 0, .int .i64 0] 26)).heap.size := by simp
  generalize hw : ((w.alloc (.cells #[.slice a ws.length c, .int .i64 b] 26)).alloc (.cells #[.slice none 0 0, .int .i64 0] 26)) = w0 at *
  clear hw
  have n0_0 : w.heap.size < w0.heap.size := by omega
  have n0_1 : w.heap.size + 1 < w0.heap.size := by omega
  refine (spec_one a ws c b a' ys c' _ (Hhr.out.below HB0.out) (Hhq.out.below HB0.out) hn hm false h).mono ?_
  rintro e w1 ⟨rfl, hb⟩
  have s1 : w0.heap.size ≤ w1.heap.size := hb.size
  have n1_0 : w.heap.size < w1.heap.size := by omega
  have n1_1 : w.heap.size + 1 < w1.heap.size := by omega
  replace x0_0 := cell_below hb x0_0 (by omega)
  replace x0_1 := cell_below hb x0_1 (by omega)
  replace x1_0 := cell_below hb x1_0 (by omega)
  replace x1_1 := cell_below hb x1_1 (by omega)
  replace f1_0 := fro_below hb f1_0 (by omega)
  replace f1_1 := fro_below hb f1_1 (by omega)
  have HB1 := Lib.hid (HB0.out.trans (hb.mono (by omega)))
  clear hb
  go_wp2_with fail
  refine bodyPost_ret (v := .tuple #[.agg #[.slice none 0 0, .int .i64 0], .bool false]) (by simp [results, Try.results41, go_sem, x1_0, x1_1]) rfl ⟨_, rfl, OwnI.nil _ _ _, ?_⟩
  exact ((HB1.out.setCell (by simp) _).setCell (by simp) _)
set_option maxRecDepth 100000 in
set_option maxHeartbeats 4000000 in
theorem spec_out (a : Option Addr) (ws : List Int) (c : Nat) (b : Int) (a' : Option Addr) (ys : List Int) (c' : Nat) (w : World) (hr : ints.Reads .i64 w a ws) (hq : ints.Reads .i64 w a' ys) (hn : ws.length ≤ 1048576) (hm : ys.length ≤ 1048576) (h : Hid (oneB ws b ys = true)) (hK : Hid (planeB ws (b + dot ws ys) = false)) :
    Calls Try.prog 41 #[.agg #[.slice a ws.length c, .int .i64 b], .slice a' ys.length c'] w (RetPB [] 0 false w) := by
  obtain ⟨⟨b1, b2⟩, d1, d2, hp⟩ := one_bd h.out
  have HSm := Lib.hid (one_small h.out)
  have HL := Lib.hid ((oneB_iff _ _ _).1 h.out).2.2
  have HDot := Lib.hid (fun (wa : World) (h1 : ints.Reads .i64 wa a ws) (h2 : ints.Reads .i64 wa a' ys) => spec_dot a ws c a' ys c' wa h1 h2 hn (Nat.le_of_eq HL.out.symm) hm HSm.out)
  have Hhr := Lib.hid hr
  have Hhq := Lib.hid hq
  clear hr hq
  go_enter Try.func41, Try.ntmps41
  go_wp2_with fail
  have x0_0 : (w.alloc (.cells #[.slice a ws.length c, .int .i64 b] 26)).cell? ⟨w.heap.size, 0, none⟩ = some (.slice a ws.length c) := cell_new _ _ _ (by simp) rfl
  have x0_1 : (w.alloc (.cells #[.slice a ws.length c, .int .i64 b] 26)).cell? ⟨w.heap.size, 1, none⟩ = some (.int .i64 b) := cell_new _ _ _ (by simp) rfl
  have HB0 := Lib.hid (below_alloc w (.cells #[.slice a ws.length c, .int .i64 b] 26))
  replace x0_0 := cell_old (.cells #[.slice none 0 0, .int .i64 0] 26) x0_0
  replace x0_1 := cell_old (.cells #[.slice none 0 0, .int .i64 0] 26) x0_1
  have x1_0 : ((w.alloc (.cells #[.slice a ws.length c, .int .i64 b] 26)).alloc (.cells #[.slice none 0 0, .int .i64 0] 26)).cell? ⟨w.heap.size + 1, 0, none⟩ = some (.slice none 0 0) := cell_new _ _ _ (by simp) rfl
  have x1_1 : ((w.alloc (.cells #[.slice a ws.length c, .int .i64 b] 26)).alloc (.cells #[.slice none 0 0, .int .i64 0] 26)).cell? ⟨w.heap.size + 1, 1, none⟩ = some (.int .i64 0) := cell_new _ _ _ (by simp) rfl
  have f1_0 : ((w.alloc (.cells #[.slice a ws.length c, .int .i64 b] 26)).alloc (.cells #[.slice none 0 0, .int .i64 0] 26)).frozen? ⟨w.heap.size + 1, 0, none⟩ = false := fro_new _ _ _ (by simp)
  have f1_1 : ((w.alloc (.cells #[.slice a ws.length c, .int .i64 b] 26)).alloc (.cells #[.slice none 0 0, .int .i64 0] 26)).frozen? ⟨w.heap.size + 1, 1, none⟩ = false := fro_new _ _ _ (by simp)
  replace HB0 := Lib.hid (HB0.out.alloc (by simp) (.cells #[.slice none 0 0, .int .i64 0] 26))
  have s0 : w.heap.size + 2 ≤ ((w.alloc (.cells #[.slice a ws.length c, .int .i64 b] 26)).alloc (.cells #[.slice none 0 0, .int .i64 0] 26)).heap.size := by simp
  generalize hw : ((w.alloc (.cells #[.slice a ws.length c, .int .i64 b] 26)).alloc (.cells #[.slice none 0 0, .int .i64 0] 26)) = w0 at *
  clear hw
  have n0_0 : w.heap.size < w0.heap.size := by omega
  have n0_1 : w.heap.size + 1 < w0.heap.size := by omega
  refine (spec_one a ws c b a' ys c' _ (Hhr.out.below HB0.out) (Hhq.out.below HB0.out) hn hm true h).mono ?_
  rintro e w1 ⟨rfl, hb⟩
  have s1 : w0.heap.size ≤ w1.heap.size := hb.size
  have n1_0 : w.heap.size < w1.heap.size := by omega
  have n1_1 : w.heap.size + 1 < w1.heap.size := by omega
  replace x0_0 := cell_below hb x0_0 (by omega)
  replace x0_1 := cell_below hb x0_1 (by omega)
  replace x1_0 := cell_below hb x1_0 (by omega)
  replace x1_1 := cell_below hb x1_1 (by omega)
  replace f1_0 := fro_below hb f1_0 (by omega)
  replace f1_1 := fro_below hb f1_1 (by omega)
  have HB1 := Lib.hid (HB0.out.trans (hb.mono (by omega)))
  clear hb
  go_wp2_with fail
  generalize dot ws ys = d at *
  have e1 : IntKind.i64.wrap (b + d) = b + d := IntWalk.i64_in _ (by omega)
  have HT0 := Lib.hid (show ∀ (wa : World), (wa.cell? ⟨w.heap.size, 0, none⟩ = some (.slice a ws.length c) ∧ wa.cell? ⟨w.heap.size, 1, none⟩ = some (.int .i64 b) ∧ w1.heap.size ≤ wa.heap.size ∧ Below w.heap.size w wa) → (wa.cell? ⟨w.heap.size + 1, 0, none⟩ = some (.slice none 0 0) ∧ wa.cell? ⟨w.heap.size + 1, 1, none⟩ = some (.int .i64 0) ∧ wa.frozen? ⟨w.heap.size + 1, 0, none⟩ = false ∧ wa.frozen? ⟨w.heap.size + 1, 1, none⟩ = false) → Calls Try.prog 88 #[.slice a ws.length c] wa (fun e w' => ∃ (p1 : Option Addr) (q1 : Nat), e = .returned (.slice p1 ws.length q1) ∧ OwnI w1.heap.size w'.heap.size w' (.slice p1 ws.length q1) ws ∧ (w'.cell? ⟨w.heap.size + 1, 0, none⟩ = some (.slice none 0 0) ∧ w'.cell? ⟨w.heap.size + 1, 1, none⟩ = some (.int .i64 0) ∧ w'.frozen? ⟨w.heap.size + 1, 0, none⟩ = false ∧ w'.frozen? ⟨w.heap.size + 1, 1, none⟩ = false) ∧ w'.cell? ⟨w.heap.size, 0, none⟩ = some (.slice a ws.length c) ∧ w'.cell? ⟨w.heap.size, 1, none⟩ = some (.int .i64 b) ∧ w1.heap.size ≤ w'.heap.size ∧ Below w.heap.size w w') from fun wa  hS hQ  => by
    have hwz := hS.2.2.1
    have hB := hS.2.2.2
    refine (own1.spec_own a ws c wa (Hhr.out.below hB) hn (by omega)).mono ?_
    rintro e w' ⟨v, rfl, ho, hb⟩
    obtain ⟨p1, q1, rfl, _, _, _⟩ := ho.slice
    exact ⟨p1, q1, rfl, ho.mono hwz (Nat.le_refl _), ⟨cell_below hb hQ.1 (by omega), cell_below hb hQ.2.1 (by omega), fro_below hb hQ.2.2.1 (by omega), fro_below hb hQ.2.2.2 (by omega)⟩, cell_below hb hS.1 (by omega), cell_below hb hS.2.1 (by omega), Nat.le_trans hwz hb.size, hB.trans (hb.mono hB.size)⟩)
  have HT1 := Lib.hid (show ∀ (wa : World) (p1 : Option Addr) (q1 : Nat), (wa.cell? ⟨w.heap.size, 0, none⟩ = some (.slice a ws.length c) ∧ wa.cell? ⟨w.heap.size, 1, none⟩ = some (.int .i64 b) ∧ w1.heap.size ≤ wa.heap.size ∧ Below w.heap.size w wa) → (wa.cell? ⟨w.heap.size + 1, 0, none⟩ = some (.slice none 0 0) ∧ wa.cell? ⟨w.heap.size + 1, 1, none⟩ = some (.int .i64 0) ∧ wa.frozen? ⟨w.heap.size + 1, 0, none⟩ = false ∧ wa.frozen? ⟨w.heap.size + 1, 1, none⟩ = false) → OwnI w1.heap.size wa.heap.size wa (.slice p1 ws.length q1) ws → Calls Try.prog 96 #[.slice a ws.length c, .slice a' ys.length c'] wa (fun e w' => e = .returned (.int .i64 d) ∧ OwnI w1.heap.size w'.heap.size w' (.slice p1 ws.length q1) ws ∧ (w'.cell? ⟨w.heap.size + 1, 0, none⟩ = some (.slice none 0 0) ∧ w'.cell? ⟨w.heap.size + 1, 1, none⟩ = some (.int .i64 0) ∧ w'.frozen? ⟨w.heap.size + 1, 0, none⟩ = false ∧ w'.frozen? ⟨w.heap.size + 1, 1, none⟩ = false) ∧ w'.cell? ⟨w.heap.size, 0, none⟩ = some (.slice a ws.length c) ∧ w'.cell? ⟨w.heap.size, 1, none⟩ = some (.int .i64 b) ∧ w1.heap.size ≤ w'.heap.size ∧ Below w.heap.size w w') from fun wa p1 q1 hS hQ k0 => by
    have hwz := hS.2.2.1
    have hB := hS.2.2.2
    refine (HDot.out wa (Hhr.out.below hB) (Hhq.out.below hB)).mono ?_
    rintro e w' ⟨rfl, m, rfl⟩
    have hb := ints.below_drewN (Below.refl wa.heap.size wa) m
    exact ⟨rfl, (k0.below hb).mono (Nat.le_refl _) hb.size, ⟨cell_below hb hQ.1 (by omega), cell_below hb hQ.2.1 (by omega), fro_below hb hQ.2.2.1 (by omega), fro_below hb hQ.2.2.2 (by omega)⟩, cell_below hb hS.1 (by omega), cell_below hb hS.2.1 (by omega), Nat.le_trans hwz hb.size, hB.trans (hb.mono hB.size)⟩)
  have HT2 := Lib.hid (show ∀ (wa : World) (p1 : Option Addr) (q1 : Nat), (wa.cell? ⟨w.heap.size, 0, none⟩ = some (.slice a ws.length c) ∧ wa.cell? ⟨w.heap.size, 1, none⟩ = some (.int .i64 b) ∧ w1.heap.size ≤ wa.heap.size ∧ Below w.heap.size w wa) → (wa.cell? ⟨w.heap.size + 1, 0, none⟩ = some (.slice none 0 0) ∧ wa.cell? ⟨w.heap.size + 1, 1, none⟩ = some (.int .i64 0) ∧ wa.frozen? ⟨w.heap.size + 1, 0, none⟩ = false ∧ wa.frozen? ⟨w.heap.size + 1, 1, none⟩ = false) → OwnI w1.heap.size wa.heap.size wa (.slice p1 ws.length q1) ws → Calls Try.prog 95 #[.agg #[.slice p1 ws.length q1, .int .i64 (b + d)]] wa (fun e w' => e = .returned (.tuple #[.agg #[.slice none 0 0, .int .i64 0], .bool false]) ∧ OwnI w1.heap.size w'.heap.size w' (.slice p1 ws.length q1) ws ∧ (w'.cell? ⟨w.heap.size + 1, 0, none⟩ = some (.slice none 0 0) ∧ w'.cell? ⟨w.heap.size + 1, 1, none⟩ = some (.int .i64 0) ∧ w'.frozen? ⟨w.heap.size + 1, 0, none⟩ = false ∧ w'.frozen? ⟨w.heap.size + 1, 1, none⟩ = false) ∧ w'.cell? ⟨w.heap.size, 0, none⟩ = some (.slice a ws.length c) ∧ w'.cell? ⟨w.heap.size, 1, none⟩ = some (.int .i64 b) ∧ w1.heap.size ≤ w'.heap.size ∧ Below w.heap.size w w') from fun wa p1 q1 hS hQ k0 => by
    have hwz := hS.2.2.1
    have hB := hS.2.2.2
    refine (spec_kept_no p1 ws q1 (b + d) wa k0.reads hn hK).mono ?_
    rintro e w' ⟨rfl, hb⟩
    exact ⟨rfl, (k0.below hb).mono (Nat.le_refl _) hb.size, ⟨cell_below hb hQ.1 (by omega), cell_below hb hQ.2.1 (by omega), fro_below hb hQ.2.2.1 (by omega), fro_below hb hQ.2.2.2 (by omega)⟩, cell_below hb hS.1 (by omega), cell_below hb hS.2.1 (by omega), Nat.le_trans hwz hb.size, hB.trans (hb.mono hB.size)⟩)
  go_region_held3 (fun w' => w'.cell? ⟨w.heap.size, 0, none⟩ = some (.slice a ws.length c) ∧ w'.cell? ⟨w.heap.size, 1, none⟩ = some (.int .i64 b) ∧ w1.heap.size ≤ w'.heap.size ∧ Below w.heap.size w w') (first | assumption | exact ⟨x0_0, x0_1, Nat.le_refl _, HB1.out⟩ | exact ⟨x0_0, x0_1, Nat.le_refl _, HB1.out.drew⟩ | exact ⟨cell_set (cell_set hbx.1 (by first | (simp; done) | (simp; omega) | omega) _) (by first | (simp; done) | (simp; omega) | omega) _, cell_set (cell_set hbx.2.1 (by first | (simp; done) | (simp; omega) | omega) _) (by first | (simp; done) | (simp; omega) | omega) _, by rw [size_set, size_set]; exact hbx.2.2.1, (hbx.2.2.2.setCell (by simp) _).setCell (by simp) _⟩) (first | (go_at_call 88; refine Calls.mono (HT0.out _ (by assumption) (by exact ⟨x1_0, x1_1, f1_0, f1_1⟩)) ?_; rintro e v0 ⟨p1, q1, rfl, ho0_0, hq0, hbx⟩) | (go_at_call 96; refine Calls.mono (HT1.out _ _ _ (by assumption) hq0 ho0_0) ?_; rintro e v1 ⟨rfl, ho0_1, hq1, hbx⟩) | (go_at_call 95; refine Calls.mono (HT2.out _ _ _ (by assumption) hq1 ho0_1) ?_; rintro e v2 ⟨rfl, ho0_2, hq2, hbx⟩))
  have HO0 := Lib.hid ho0_2
  obtain ⟨g0, g1, g2, g3⟩ := hq2
  have HSZ := Lib.hid hbx.2.2.1
  have HBE := Lib.hid hbx.2.2.2
  go_wp2_with fail
  refine bodyPost_ret (v := .tuple #[.agg #[.slice none 0 0, .int .i64 0], .bool false]) (by simp [results, Try.results41, go_sem, g0, g1]) rfl ⟨_, rfl, ?_, ?_⟩
  · exact OwnI.nil _ _ _
  · exact (HBE.out.setCell (by simp) _).setCell (by simp) _
set_option maxRecDepth 100000 in
set_option maxHeartbeats 4000000 in
theorem spec_yes (a : Option Addr) (ws : List Int) (c : Nat) (b : Int) (a' : Option Addr) (ys : List Int) (c' : Nat) (w : World) (hr : ints.Reads .i64 w a ws) (hq : ints.Reads .i64 w a' ys) (hn : ws.length ≤ 1048576) (hm : ys.length ≤ 1048576) (h : Hid (oneB ws b ys = true)) (hK : Hid (planeB ws (b + dot ws ys) = true)) :
    Calls Try.prog 41 #[.agg #[.slice a ws.length c, .int .i64 b], .slice a' ys.length c'] w (RetPB ws (b + dot ws ys) true w) := by
  obtain ⟨⟨b1, b2⟩, d1, d2, hp⟩ := one_bd h.out
  have HSm := Lib.hid (one_small h.out)
  have HL := Lib.hid ((oneB_iff _ _ _).1 h.out).2.2
  have HDot := Lib.hid (fun (wa : World) (h1 : ints.Reads .i64 wa a ws) (h2 : ints.Reads .i64 wa a' ys) => spec_dot a ws c a' ys c' wa h1 h2 hn (Nat.le_of_eq HL.out.symm) hm HSm.out)
  have Hhr := Lib.hid hr
  have Hhq := Lib.hid hq
  clear hr hq
  go_enter Try.func41, Try.ntmps41
  go_wp2_with fail
  have x0_0 : (w.alloc (.cells #[.slice a ws.length c, .int .i64 b] 26)).cell? ⟨w.heap.size, 0, none⟩ = some (.slice a ws.length c) := cell_new _ _ _ (by simp) rfl
  have x0_1 : (w.alloc (.cells #[.slice a ws.length c, .int .i64 b] 26)).cell? ⟨w.heap.size, 1, none⟩ = some (.int .i64 b) := cell_new _ _ _ (by simp) rfl
  have HB0 := Lib.hid (below_alloc w (.cells #[.slice a ws.length c, .int .i64 b] 26))
  replace x0_0 := cell_old (.cells #[.slice none 0 0, .int .i64 0] 26) x0_0
  replace x0_1 := cell_old (.cells #[.slice none 0 0, .int .i64 0] 26) x0_1
  have x1_0 : ((w.alloc (.cells #[.slice a ws.length c, .int .i64 b] 26)).alloc (.cells #[.slice none 0 0, .int .i64 0] 26)).cell? ⟨w.heap.size + 1, 0, none⟩ = some (.slice none 0 0) := cell_new _ _ _ (by simp) rfl
  have x1_1 : ((w.alloc (.cells #[.slice a ws.length c, .int .i64 b] 26)).alloc (.cells #[.slice none 0 0, .int .i64 0] 26)).cell? ⟨w.heap.size + 1, 1, none⟩ = some (.int .i64 0) := cell_new _ _ _ (by simp) rfl
  have f1_0 : ((w.alloc (.cells #[.slice a ws.length c, .int .i64 b] 26)).alloc (.cells #[.slice none 0 0, .int .i64 0] 26)).frozen? ⟨w.heap.size + 1, 0, none⟩ = false := fro_new _ _ _ (by simp)
  have f1_1 : ((w.alloc (.cells #[.slice a ws.length c, .int .i64 b] 26)).alloc (.cells #[.slice none 0 0, .int .i64 0] 26)).frozen? ⟨w.heap.size + 1, 1, none⟩ = false := fro_new _ _ _ (by simp)
  replace HB0 := Lib.hid (HB0.out.alloc (by simp) (.cells #[.slice none 0 0, .int .i64 0] 26))
  have s0 : w.heap.size + 2 ≤ ((w.alloc (.cells #[.slice a ws.length c, .int .i64 b] 26)).alloc (.cells #[.slice none 0 0, .int .i64 0] 26)).heap.size := by simp
  generalize hw : ((w.alloc (.cells #[.slice a ws.length c, .int .i64 b] 26)).alloc (.cells #[.slice none 0 0, .int .i64 0] 26)) = w0 at *
  clear hw
  have n0_0 : w.heap.size < w0.heap.size := by omega
  have n0_1 : w.heap.size + 1 < w0.heap.size := by omega
  refine (spec_one a ws c b a' ys c' _ (Hhr.out.below HB0.out) (Hhq.out.below HB0.out) hn hm true h).mono ?_
  rintro e w1 ⟨rfl, hb⟩
  have s1 : w0.heap.size ≤ w1.heap.size := hb.size
  have n1_0 : w.heap.size < w1.heap.size := by omega
  have n1_1 : w.heap.size + 1 < w1.heap.size := by omega
  replace x0_0 := cell_below hb x0_0 (by omega)
  replace x0_1 := cell_below hb x0_1 (by omega)
  replace x1_0 := cell_below hb x1_0 (by omega)
  replace x1_1 := cell_below hb x1_1 (by omega)
  replace f1_0 := fro_below hb f1_0 (by omega)
  replace f1_1 := fro_below hb f1_1 (by omega)
  have HB1 := Lib.hid (HB0.out.trans (hb.mono (by omega)))
  clear hb
  go_wp2_with fail
  generalize dot ws ys = d at *
  have e1 : IntKind.i64.wrap (b + d) = b + d := IntWalk.i64_in _ (by omega)
  have HT0 := Lib.hid (show ∀ (wa : World), (wa.cell? ⟨w.heap.size, 0, none⟩ = some (.slice a ws.length c) ∧ wa.cell? ⟨w.heap.size, 1, none⟩ = some (.int .i64 b) ∧ w1.heap.size ≤ wa.heap.size ∧ Below w.heap.size w wa) → (wa.cell? ⟨w.heap.size + 1, 0, none⟩ = some (.slice none 0 0) ∧ wa.cell? ⟨w.heap.size + 1, 1, none⟩ = some (.int .i64 0) ∧ wa.frozen? ⟨w.heap.size + 1, 0, none⟩ = false ∧ wa.frozen? ⟨w.heap.size + 1, 1, none⟩ = false) → Calls Try.prog 88 #[.slice a ws.length c] wa (fun e w' => ∃ (p1 : Option Addr) (q1 : Nat), e = .returned (.slice p1 ws.length q1) ∧ OwnI w1.heap.size w'.heap.size w' (.slice p1 ws.length q1) ws ∧ (w'.cell? ⟨w.heap.size + 1, 0, none⟩ = some (.slice none 0 0) ∧ w'.cell? ⟨w.heap.size + 1, 1, none⟩ = some (.int .i64 0) ∧ w'.frozen? ⟨w.heap.size + 1, 0, none⟩ = false ∧ w'.frozen? ⟨w.heap.size + 1, 1, none⟩ = false) ∧ w'.cell? ⟨w.heap.size, 0, none⟩ = some (.slice a ws.length c) ∧ w'.cell? ⟨w.heap.size, 1, none⟩ = some (.int .i64 b) ∧ w1.heap.size ≤ w'.heap.size ∧ Below w.heap.size w w') from fun wa  hS hQ  => by
    have hwz := hS.2.2.1
    have hB := hS.2.2.2
    refine (own1.spec_own a ws c wa (Hhr.out.below hB) hn (by omega)).mono ?_
    rintro e w' ⟨v, rfl, ho, hb⟩
    obtain ⟨p1, q1, rfl, _, _, _⟩ := ho.slice
    exact ⟨p1, q1, rfl, ho.mono hwz (Nat.le_refl _), ⟨cell_below hb hQ.1 (by omega), cell_below hb hQ.2.1 (by omega), fro_below hb hQ.2.2.1 (by omega), fro_below hb hQ.2.2.2 (by omega)⟩, cell_below hb hS.1 (by omega), cell_below hb hS.2.1 (by omega), Nat.le_trans hwz hb.size, hB.trans (hb.mono hB.size)⟩)
  have HT1 := Lib.hid (show ∀ (wa : World) (p1 : Option Addr) (q1 : Nat), (wa.cell? ⟨w.heap.size, 0, none⟩ = some (.slice a ws.length c) ∧ wa.cell? ⟨w.heap.size, 1, none⟩ = some (.int .i64 b) ∧ w1.heap.size ≤ wa.heap.size ∧ Below w.heap.size w wa) → (wa.cell? ⟨w.heap.size + 1, 0, none⟩ = some (.slice none 0 0) ∧ wa.cell? ⟨w.heap.size + 1, 1, none⟩ = some (.int .i64 0) ∧ wa.frozen? ⟨w.heap.size + 1, 0, none⟩ = false ∧ wa.frozen? ⟨w.heap.size + 1, 1, none⟩ = false) → OwnI w1.heap.size wa.heap.size wa (.slice p1 ws.length q1) ws → Calls Try.prog 96 #[.slice a ws.length c, .slice a' ys.length c'] wa (fun e w' => e = .returned (.int .i64 d) ∧ OwnI w1.heap.size w'.heap.size w' (.slice p1 ws.length q1) ws ∧ (w'.cell? ⟨w.heap.size + 1, 0, none⟩ = some (.slice none 0 0) ∧ w'.cell? ⟨w.heap.size + 1, 1, none⟩ = some (.int .i64 0) ∧ w'.frozen? ⟨w.heap.size + 1, 0, none⟩ = false ∧ w'.frozen? ⟨w.heap.size + 1, 1, none⟩ = false) ∧ w'.cell? ⟨w.heap.size, 0, none⟩ = some (.slice a ws.length c) ∧ w'.cell? ⟨w.heap.size, 1, none⟩ = some (.int .i64 b) ∧ w1.heap.size ≤ w'.heap.size ∧ Below w.heap.size w w') from fun wa p1 q1 hS hQ k0 => by
    have hwz := hS.2.2.1
    have hB := hS.2.2.2
    refine (HDot.out wa (Hhr.out.below hB) (Hhq.out.below hB)).mono ?_
    rintro e w' ⟨rfl, m, rfl⟩
    have hb := ints.below_drewN (Below.refl wa.heap.size wa) m
    exact ⟨rfl, (k0.below hb).mono (Nat.le_refl _) hb.size, ⟨cell_below hb hQ.1 (by omega), cell_below hb hQ.2.1 (by omega), fro_below hb hQ.2.2.1 (by omega), fro_below hb hQ.2.2.2 (by omega)⟩, cell_below hb hS.1 (by omega), cell_below hb hS.2.1 (by omega), Nat.le_trans hwz hb.size, hB.trans (hb.mono hB.size)⟩)
  have HT2 := Lib.hid (show ∀ (wa : World) (p1 : Option Addr) (q1 : Nat), (wa.cell? ⟨w.heap.size, 0, none⟩ = some (.slice a ws.length c) ∧ wa.cell? ⟨w.heap.size, 1, none⟩ = some (.int .i64 b) ∧ w1.heap.size ≤ wa.heap.size ∧ Below w.heap.size w wa) → (wa.cell? ⟨w.heap.size + 1, 0, none⟩ = some (.slice none 0 0) ∧ wa.cell? ⟨w.heap.size + 1, 1, none⟩ = some (.int .i64 0) ∧ wa.frozen? ⟨w.heap.size + 1, 0, none⟩ = false ∧ wa.frozen? ⟨w.heap.size + 1, 1, none⟩ = false) → OwnI w1.heap.size wa.heap.size wa (.slice p1 ws.length q1) ws → Calls Try.prog 95 #[.agg #[.slice p1 ws.length q1, .int .i64 (b + d)]] wa (fun e w' => e = .returned (.tuple #[.agg #[.slice p1 ws.length q1, .int .i64 (b + d)], .bool true]) ∧ OwnI w1.heap.size w'.heap.size w' (.slice p1 ws.length q1) ws ∧ (w'.cell? ⟨w.heap.size + 1, 0, none⟩ = some (.slice none 0 0) ∧ w'.cell? ⟨w.heap.size + 1, 1, none⟩ = some (.int .i64 0) ∧ w'.frozen? ⟨w.heap.size + 1, 0, none⟩ = false ∧ w'.frozen? ⟨w.heap.size + 1, 1, none⟩ = false) ∧ w'.cell? ⟨w.heap.size, 0, none⟩ = some (.slice a ws.length c) ∧ w'.cell? ⟨w.heap.size, 1, none⟩ = some (.int .i64 b) ∧ w1.heap.size ≤ w'.heap.size ∧ Below w.heap.size w w') from fun wa p1 q1 hS hQ k0 => by
    have hwz := hS.2.2.1
    have hB := hS.2.2.2
    refine (spec_kept_yes p1 ws q1 (b + d) wa k0.reads hn hK).mono ?_
    rintro e w' ⟨rfl, hb⟩
    exact ⟨rfl, (k0.below hb).mono (Nat.le_refl _) hb.size, ⟨cell_below hb hQ.1 (by omega), cell_below hb hQ.2.1 (by omega), fro_below hb hQ.2.2.1 (by omega), fro_below hb hQ.2.2.2 (by omega)⟩, cell_below hb hS.1 (by omega), cell_below hb hS.2.1 (by omega), Nat.le_trans hwz hb.size, hB.trans (hb.mono hB.size)⟩)
  go_region_held3 (fun w' => w'.cell? ⟨w.heap.size, 0, none⟩ = some (.slice a ws.length c) ∧ w'.cell? ⟨w.heap.size, 1, none⟩ = some (.int .i64 b) ∧ w1.heap.size ≤ w'.heap.size ∧ Below w.heap.size w w') (first | assumption | exact ⟨x0_0, x0_1, Nat.le_refl _, HB1.out⟩ | exact ⟨x0_0, x0_1, Nat.le_refl _, HB1.out.drew⟩ | exact ⟨cell_set (cell_set hbx.1 (by first | (simp; done) | (simp; omega) | omega) _) (by first | (simp; done) | (simp; omega) | omega) _, cell_set (cell_set hbx.2.1 (by first | (simp; done) | (simp; omega) | omega) _) (by first | (simp; done) | (simp; omega) | omega) _, by rw [size_set, size_set]; exact hbx.2.2.1, (hbx.2.2.2.setCell (by simp) _).setCell (by simp) _⟩) (first | (go_at_call 88; refine Calls.mono (HT0.out _ (by assumption) (by exact ⟨x1_0, x1_1, f1_0, f1_1⟩)) ?_; rintro e v0 ⟨p1, q1, rfl, ho0_0, hq0, hbx⟩) | (go_at_call 96; refine Calls.mono (HT1.out _ _ _ (by assumption) hq0 ho0_0) ?_; rintro e v1 ⟨rfl, ho0_1, hq1, hbx⟩) | (go_at_call 95; refine Calls.mono (HT2.out _ _ _ (by assumption) hq1 ho0_1) ?_; rintro e v2 ⟨rfl, ho0_2, hq2, hbx⟩))
  have HO0 := Lib.hid ho0_2
  obtain ⟨g0, g1, g2, g3⟩ := hq2
  have HSZ := Lib.hid hbx.2.2.1
  have HBE := Lib.hid hbx.2.2.2
  go_wp2_with fail
  refine bodyPost_ret (v := .tuple #[.agg #[.slice p1 ws.length q1, .int .i64 (b + d)], .bool true]) (by simp [results, Try.results41, go_sem, g0, g1]) rfl ⟨_, rfl, ?_, ?_⟩
  · simp only [size_set]; exact ((HO0.out.set (by simp; omega) _).set (by simp; omega) _).mono (by omega) (Nat.le_refl _)
  · exact (HBE.out.setCell (by simp) _).setCell (by simp) _

theorem clone_own (a : Option Addr) (zs : List Int) (c : Nat) (w : World) (hr : ints.Reads .i64 w a zs) (hn : zs.length ≤ 1048576) (h0 : 0 < zs.length) :
    Calls Try.prog 82 #[.slice a zs.length c] w (intfns.Made zs w) := by
  obtain ⟨b, off, rfl, hb, hc⟩ := own1.reads_pos hr h0
  refine (Try.slices_Clone_int b off zs.length c zs w (Nat.le_refl _) (by omega) hc).mono ?_
  rintro e w' ⟨v, rfl, ho, _, hb⟩
  rw [List.take_length] at ho
  exact ⟨v, rfl, OwnI.of ho, hb⟩
set_option maxRecDepth 100000 in
set_option maxHeartbeats 4000000 in
theorem impl_no (a : Option Addr) (ws : List Int) (c : Nat) (b : Int) (a' : Option Addr) (ys : List Int) (c' : Nat) (w : World) (hr : ints.Reads .i64 w a ws) (hq : ints.Reads .i64 w a' ys) (hn : ws.length ≤ 1048576) (hm : ys.length ≤ 1048576) (h : Hid (oneB ws b ys = false)) :
    Calls Try.prog 43 #[.agg #[.slice a ws.length c, .int .i64 b], .slice a' ys.length c'] w (RetPB [] 0 false w) := by
  have Hhr := Lib.hid hr
  have Hhq := Lib.hid hq
  clear hr hq
  go_enter Try.func43, Try.ntmps43
  go_wp2_with fail
  have x0_0 : (w.alloc (.cells #[.slice a ws.length c, .int .i64 b] 26)).cell? ⟨w.heap.size, 0, none⟩ = some (.slice a ws.length c) := cell_new _ _ _ (by simp) rfl
  have x0_1 : (w.alloc (.cells #[.slice a ws.length c, .int .i64 b] 26)).cell? ⟨w.heap.size, 1, none⟩ = some (.int .i64 b) := cell_new _ _ _ (by simp) rfl
  have HB0 := Lib.hid (below_alloc w (.cells #[.slice a ws.length c, .int .i64 b] 26))
  replace x0_0 := cell_old (.cells #[.slice none 0 0, .int .i64 0] 26) x0_0
  replace x0_1 := cell_old (.cells #[.slice none 0 0, .int .i64 0] 26) x0_1
  have x1_0 : ((w.alloc (.cells #[.slice a ws.length c, .int .i64 b] 26)).alloc (.cells #[.slice none 0 0, .int .i64 0] 26)).cell? ⟨w.heap.size + 1, 0, none⟩ = some (.slice none 0 0) := cell_new _ _ _ (by simp) rfl
  have x1_1 : ((w.alloc (.cells #[.slice a ws.length c, .int .i64 b] 26)).alloc (.cells #[.slice none 0 0, .int .i64 0] 26)).cell? ⟨w.heap.size + 1, 1, none⟩ = some (.int .i64 0) := cell_new _ _ _ (by simp) rfl
  have f1_0 : ((w.alloc (.cells #[.slice a ws.length c, .int .i64 b] 26)).alloc (.cells #[.slice none 0 0, .int .i64 0] 26)).frozen? ⟨w.heap.size + 1, 0, none⟩ = false := fro_new _ _ _ (by simp)
  have f1_1 : ((w.alloc (.cells #[.slice a ws.length c, .int .i64 b] 26)).alloc (.cells #[.slice none 0 0, .int .i64 0] 26)).frozen? ⟨w.heap.size + 1, 1, none⟩ = false := fro_new _ _ _ (by simp)
  replace HB0 := Lib.hid (HB0.out.alloc (by simp) (.cells #[.slice none 0 0, .int .i64 0] 26))
  have s0 : w.heap.size + 2 ≤ ((w.alloc (.cells #[.slice a ws.length c, .int .i64 b] 26)).alloc (.cells #[.slice none 0 0, .int .i64 0] 26)).heap.size := by simp
  generalize hw : ((w.alloc (.cells #[.slice a ws.length c, .int .i64 b] 26)).alloc (.cells #[.slice none 0 0, .int .i64 0] 26)) = w0 at *
  clear hw
  have n0_0 : w.heap.size < w0.heap.size := by omega
  have n0_1 : w.heap.size + 1 < w0.heap.size := by omega
  refine (impl_ProductOf_no a ws c b a' ys c' _ (Hhr.out.below HB0.out) (Hhq.out.below HB0.out) hn hm h).mono ?_
  rintro e w1 ⟨rfl, hb⟩
  have s1 : w0.heap.size ≤ w1.heap.size := hb.size
  have n1_0 : w.heap.size < w1.heap.size := by omega
  have n1_1 : w.heap.size + 1 < w1.heap.size := by omega
  replace x0_0 := cell_below hb x0_0 (by omega)
  replace x0_1 := cell_below hb x0_1 (by omega)
  replace x1_0 := cell_below hb x1_0 (by omega)
  replace x1_1 := cell_below hb x1_1 (by omega)
  replace f1_0 := fro_below hb f1_0 (by omega)
  replace f1_1 := fro_below hb f1_1 (by omega)
  have HB1 := Lib.hid (HB0.out.trans (hb.mono (by omega)))
  clear hb
  go_wp2_with fail
  refine bodyPost_ret (v := .tuple #[.agg #[.slice none 0 0, .int .i64 0], .bool false]) (by simp [results, Try.results43, go_sem, x1_0, x1_1]) rfl ⟨_, rfl, OwnI.nil _ _ _, ?_⟩
  exact ((HB1.out.setCell (by simp) _).setCell (by simp) _)
set_option maxRecDepth 100000 in
set_option maxHeartbeats 4000000 in
theorem impl_out (a : Option Addr) (ws : List Int) (c : Nat) (b : Int) (a' : Option Addr) (ys : List Int) (c' : Nat) (w : World) (hr : ints.Reads .i64 w a ws) (hq : ints.Reads .i64 w a' ys) (hn : ws.length ≤ 1048576) (hm : ys.length ≤ 1048576) (h : Hid (oneB ws b ys = true)) (hK : Hid (planeB ws (b + dot ws ys) = false)) :
    Calls Try.prog 43 #[.agg #[.slice a ws.length c, .int .i64 b], .slice a' ys.length c'] w (RetPB [] 0 false w) := by
  obtain ⟨⟨b1, b2⟩, d1, d2, hp⟩ := one_bd h.out
  have HSm := Lib.hid (one_small h.out)
  have HL := Lib.hid ((oneB_iff _ _ _).1 h.out).2.2
  have Hhr := Lib.hid hr
  have Hhq := Lib.hid hq
  clear hr hq
  go_enter Try.func43, Try.ntmps43
  go_wp2_with fail
  have x0_0 : (w.alloc (.cells #[.slice a ws.length c, .int .i64 b] 26)).cell? ⟨w.heap.size, 0, none⟩ = some (.slice a ws.length c) := cell_new _ _ _ (by simp) rfl
  have x0_1 : (w.alloc (.cells #[.slice a ws.length c, .int .i64 b] 26)).cell? ⟨w.heap.size, 1, none⟩ = some (.int .i64 b) := cell_new _ _ _ (by simp) rfl
  have HB0 := Lib.hid (below_alloc w (.cells #[.slice a ws.length c, .int .i64 b] 26))
  replace x0_0 := cell_old (.cells #[.slice none 0 0, .int .i64 0] 26) x0_0
  replace x0_1 := cell_old (.cells #[.slice none 0 0, .int .i64 0] 26) x0_1
  have x1_0 : ((w.alloc (.cells #[.slice a ws.length c, .int .i64 b] 26)).alloc (.cells #[.slice none 0 0, .int .i64 0] 26)).cell? ⟨w.heap.size + 1, 0, none⟩ = some (.slice none 0 0) := cell_new _ _ _ (by simp) rfl
  have x1_1 : ((w.alloc (.cells #[.slice a ws.length c, .int .i64 b] 26)).alloc (.cells #[.slice none 0 0, .int .i64 0] 26)).cell? ⟨w.heap.size + 1, 1, none⟩ = some (.int .i64 0) := cell_new _ _ _ (by simp) rfl
  have f1_0 : ((w.alloc (.cells #[.slice a ws.length c, .int .i64 b] 26)).alloc (.cells #[.slice none 0 0, .int .i64 0] 26)).frozen? ⟨w.heap.size + 1, 0, none⟩ = false := fro_new _ _ _ (by simp)
  have f1_1 : ((w.alloc (.cells #[.slice a ws.length c, .int .i64 b] 26)).alloc (.cells #[.slice none 0 0, .int .i64 0] 26)).frozen? ⟨w.heap.size + 1, 1, none⟩ = false := fro_new _ _ _ (by simp)
  replace HB0 := Lib.hid (HB0.out.alloc (by simp) (.cells #[.slice none 0 0, .int .i64 0] 26))
  have s0 : w.heap.size + 2 ≤ ((w.alloc (.cells #[.slice a ws.length c, .int .i64 b] 26)).alloc (.cells #[.slice none 0 0, .int .i64 0] 26)).heap.size := by simp
  generalize hw : ((w.alloc (.cells #[.slice a ws.length c, .int .i64 b] 26)).alloc (.cells #[.slice none 0 0, .int .i64 0] 26)) = w0 at *
  clear hw
  have n0_0 : w.heap.size < w0.heap.size := by omega
  have n0_1 : w.heap.size + 1 < w0.heap.size := by omega
  refine (impl_ProductOf_yes a ws c b a' ys c' _ (Hhr.out.below HB0.out) (Hhq.out.below HB0.out) hn hm h).mono ?_
  rintro e w1 ⟨rfl, hb⟩
  have s1 : w0.heap.size ≤ w1.heap.size := hb.size
  have n1_0 : w.heap.size < w1.heap.size := by omega
  have n1_1 : w.heap.size + 1 < w1.heap.size := by omega
  replace x0_0 := cell_below hb x0_0 (by omega)
  replace x0_1 := cell_below hb x0_1 (by omega)
  replace x1_0 := cell_below hb x1_0 (by omega)
  replace x1_1 := cell_below hb x1_1 (by omega)
  replace f1_0 := fro_below hb f1_0 (by omega)
  replace f1_1 := fro_below hb f1_1 (by omega)
  have HB1 := Lib.hid (HB0.out.trans (hb.mono (by omega)))
  clear hb
  go_wp2_with fail
  generalize dot ws ys = d at *
  have e1 : IntKind.i64.wrap (b + d) = b + d := IntWalk.i64_in _ (by omega)
  have HT0 := Lib.hid (show ∀ (wa : World), (wa.cell? ⟨w.heap.size, 0, none⟩ = some (.slice a ws.length c) ∧ wa.cell? ⟨w.heap.size, 1, none⟩ = some (.int .i64 b) ∧ w1.heap.size ≤ wa.heap.size ∧ Below w.heap.size w wa) → (wa.cell? ⟨w.heap.size + 1, 0, none⟩ = some (.slice none 0 0) ∧ wa.cell? ⟨w.heap.size + 1, 1, none⟩ = some (.int .i64 0) ∧ wa.frozen? ⟨w.heap.size + 1, 0, none⟩ = false ∧ wa.frozen? ⟨w.heap.size + 1, 1, none⟩ = false) → Calls Try.prog 82 #[.slice a ws.length c] wa (fun e w' => ∃ (p1 : Option Addr) (q1 : Nat), e = .returned (.slice p1 ws.length q1) ∧ OwnI w1.heap.size w'.heap.size w' (.slice p1 ws.length q1) ws ∧ (w'.cell? ⟨w.heap.size + 1, 0, none⟩ = some (.slice none 0 0) ∧ w'.cell? ⟨w.heap.size + 1, 1, none⟩ = some (.int .i64 0) ∧ w'.frozen? ⟨w.heap.size + 1, 0, none⟩ = false ∧ w'.frozen? ⟨w.heap.size + 1, 1, none⟩ = false) ∧ w'.cell? ⟨w.heap.size, 0, none⟩ = some (.slice a ws.length c) ∧ w'.cell? ⟨w.heap.size, 1, none⟩ = some (.int .i64 b) ∧ w1.heap.size ≤ w'.heap.size ∧ Below w.heap.size w w') from fun wa  hS hQ  => by
    have hwz := hS.2.2.1
    have hB := hS.2.2.2
    refine (clone_own a ws c wa (Hhr.out.below hB) hn (by omega)).mono ?_
    rintro e w' ⟨v, rfl, ho, hb⟩
    obtain ⟨p1, q1, rfl, _, _, _⟩ := ho.slice
    exact ⟨p1, q1, rfl, ho.mono hwz (Nat.le_refl _), ⟨cell_below hb hQ.1 (by omega), cell_below hb hQ.2.1 (by omega), fro_below hb hQ.2.2.1 (by omega), fro_below hb hQ.2.2.2 (by omega)⟩, cell_below hb hS.1 (by omega), cell_below hb hS.2.1 (by omega), Nat.le_trans hwz hb.size, hB.trans (hb.mono hB.size)⟩)
  have HT1 := Lib.hid (show ∀ (wa : World) (p1 : Option Addr) (q1 : Nat), (wa.cell? ⟨w.heap.size, 0, none⟩ = some (.slice a ws.length c) ∧ wa.cell? ⟨w.heap.size, 1, none⟩ = some (.int .i64 b) ∧ w1.heap.size ≤ wa.heap.size ∧ Below w.heap.size w wa) → (wa.cell? ⟨w.heap.size + 1, 0, none⟩ = some (.slice none 0 0) ∧ wa.cell? ⟨w.heap.size + 1, 1, none⟩ = some (.int .i64 0) ∧ wa.frozen? ⟨w.heap.size + 1, 0, none⟩ = false ∧ wa.frozen? ⟨w.heap.size + 1, 1, none⟩ = false) → OwnI w1.heap.size wa.heap.size wa (.slice p1 ws.length q1) ws → Calls Try.prog 98 #[.agg #[.slice p1 ws.length q1, .int .i64 (b + d)]] wa (fun e w' => e = .returned (.tuple #[.agg #[.slice none 0 0, .int .i64 0], .bool false]) ∧ OwnI w1.heap.size w'.heap.size w' (.slice p1 ws.length q1) ws ∧ (w'.cell? ⟨w.heap.size + 1, 0, none⟩ = some (.slice none 0 0) ∧ w'.cell? ⟨w.heap.size + 1, 1, none⟩ = some (.int .i64 0) ∧ w'.frozen? ⟨w.heap.size + 1, 0, none⟩ = false ∧ w'.frozen? ⟨w.heap.size + 1, 1, none⟩ = false) ∧ w'.cell? ⟨w.heap.size, 0, none⟩ = some (.slice a ws.length c) ∧ w'.cell? ⟨w.heap.size, 1, none⟩ = some (.int .i64 b) ∧ w1.heap.size ≤ w'.heap.size ∧ Below w.heap.size w w') from fun wa p1 q1 hS hQ k0 => by
    have hwz := hS.2.2.1
    have hB := hS.2.2.2
    refine (impl_kept_no p1 ws q1 (b + d) wa k0.reads hn hK).mono ?_
    rintro e w' ⟨rfl, hb⟩
    exact ⟨rfl, (k0.below hb).mono (Nat.le_refl _) hb.size, ⟨cell_below hb hQ.1 (by omega), cell_below hb hQ.2.1 (by omega), fro_below hb hQ.2.2.1 (by omega), fro_below hb hQ.2.2.2 (by omega)⟩, cell_below hb hS.1 (by omega), cell_below hb hS.2.1 (by omega), Nat.le_trans hwz hb.size, hB.trans (hb.mono hB.size)⟩)
  go_region_held3 (fun w' => w'.cell? ⟨w.heap.size, 0, none⟩ = some (.slice a ws.length c) ∧ w'.cell? ⟨w.heap.size, 1, none⟩ = some (.int .i64 b) ∧ w1.heap.size ≤ w'.heap.size ∧ Below w.heap.size w w') (first | assumption | exact ⟨x0_0, x0_1, Nat.le_refl _, HB1.out⟩ | exact ⟨x0_0, x0_1, Nat.le_refl _, HB1.out.drew⟩ | exact ⟨cell_set (cell_set hbx.1 (by first | (simp; done) | (simp; omega) | omega) _) (by first | (simp; done) | (simp; omega) | omega) _, cell_set (cell_set hbx.2.1 (by first | (simp; done) | (simp; omega) | omega) _) (by first | (simp; done) | (simp; omega) | omega) _, by rw [size_set, size_set]; exact hbx.2.2.1, (hbx.2.2.2.setCell (by simp) _).setCell (by simp) _⟩) (first | (go_at_call 82; refine Calls.mono (HT0.out _ (by assumption) (by exact ⟨x1_0, x1_1, f1_0, f1_1⟩)) ?_; rintro e v0 ⟨p1, q1, rfl, ho0_0, hq0, hbx⟩) | (go_at_call 98; refine Calls.mono (HT1.out _ _ _ (by assumption) hq0 ho0_0) ?_; rintro e v1 ⟨rfl, ho0_1, hq1, hbx⟩))
  have HO0 := Lib.hid ho0_1
  obtain ⟨g0, g1, g2, g3⟩ := hq1
  have HSZ := Lib.hid hbx.2.2.1
  have HBE := Lib.hid hbx.2.2.2
  go_wp2_with fail
  refine bodyPost_ret (v := .tuple #[.agg #[.slice none 0 0, .int .i64 0], .bool false]) (by simp [results, Try.results43, go_sem, g0, g1]) rfl ⟨_, rfl, ?_, ?_⟩
  · exact OwnI.nil _ _ _
  · exact (HBE.out.setCell (by simp) _).setCell (by simp) _
set_option maxRecDepth 100000 in
set_option maxHeartbeats 4000000 in
theorem impl_yes (a : Option Addr) (ws : List Int) (c : Nat) (b : Int) (a' : Option Addr) (ys : List Int) (c' : Nat) (w : World) (hr : ints.Reads .i64 w a ws) (hq : ints.Reads .i64 w a' ys) (hn : ws.length ≤ 1048576) (hm : ys.length ≤ 1048576) (h : Hid (oneB ws b ys = true)) (hK : Hid (planeB ws (b + dot ws ys) = true)) :
    Calls Try.prog 43 #[.agg #[.slice a ws.length c, .int .i64 b], .slice a' ys.length c'] w (RetPB ws (b + dot ws ys) true w) := by
  obtain ⟨⟨b1, b2⟩, d1, d2, hp⟩ := one_bd h.out
  have HSm := Lib.hid (one_small h.out)
  have HL := Lib.hid ((oneB_iff _ _ _).1 h.out).2.2
  have Hhr := Lib.hid hr
  have Hhq := Lib.hid hq
  clear hr hq
  go_enter Try.func43, Try.ntmps43
  go_wp2_with fail
  have x0_0 : (w.alloc (.cells #[.slice a ws.length c, .int .i64 b] 26)).cell? ⟨w.heap.size, 0, none⟩ = some (.slice a ws.length c) := cell_new _ _ _ (by simp) rfl
  have x0_1 : (w.alloc (.cells #[.slice a ws.length c, .int .i64 b] 26)).cell? ⟨w.heap.size, 1, none⟩ = some (.int .i64 b) := cell_new _ _ _ (by simp) rfl
  have HB0 := Lib.hid (below_alloc w (.cells #[.slice a ws.length c, .int .i64 b] 26))
  replace x0_0 := cell_old (.cells #[.slice none 0 0, .int .i64 0] 26) x0_0
  replace x0_1 := cell_old (.cells #[.slice none 0 0, .int .i64 0] 26) x0_1
  have x1_0 : ((w.alloc (.cells #[.slice a ws.length c, .int .i64 b] 26)).alloc (.cells #[.slice none 0 0, .int .i64 0] 26)).cell? ⟨w.heap.size + 1, 0, none⟩ = some (.slice none 0 0) := cell_new _ _ _ (by simp) rfl
  have x1_1 : ((w.alloc (.cells #[.slice a ws.length c, .int .i64 b] 26)).alloc (.cells #[.slice none 0 0, .int .i64 0] 26)).cell? ⟨w.heap.size + 1, 1, none⟩ = some (.int .i64 0) := cell_new _ _ _ (by simp) rfl
  have f1_0 : ((w.alloc (.cells #[.slice a ws.length c, .int .i64 b] 26)).alloc (.cells #[.slice none 0 0, .int .i64 0] 26)).frozen? ⟨w.heap.size + 1, 0, none⟩ = false := fro_new _ _ _ (by simp)
  have f1_1 : ((w.alloc (.cells #[.slice a ws.length c, .int .i64 b] 26)).alloc (.cells #[.slice none 0 0, .int .i64 0] 26)).frozen? ⟨w.heap.size + 1, 1, none⟩ = false := fro_new _ _ _ (by simp)
  replace HB0 := Lib.hid (HB0.out.alloc (by simp) (.cells #[.slice none 0 0, .int .i64 0] 26))
  have s0 : w.heap.size + 2 ≤ ((w.alloc (.cells #[.slice a ws.length c, .int .i64 b] 26)).alloc (.cells #[.slice none 0 0, .int .i64 0] 26)).heap.size := by simp
  generalize hw : ((w.alloc (.cells #[.slice a ws.length c, .int .i64 b] 26)).alloc (.cells #[.slice none 0 0, .int .i64 0] 26)) = w0 at *
  clear hw
  have n0_0 : w.heap.size < w0.heap.size := by omega
  have n0_1 : w.heap.size + 1 < w0.heap.size := by omega
  refine (impl_ProductOf_yes a ws c b a' ys c' _ (Hhr.out.below HB0.out) (Hhq.out.below HB0.out) hn hm h).mono ?_
  rintro e w1 ⟨rfl, hb⟩
  have s1 : w0.heap.size ≤ w1.heap.size := hb.size
  have n1_0 : w.heap.size < w1.heap.size := by omega
  have n1_1 : w.heap.size + 1 < w1.heap.size := by omega
  replace x0_0 := cell_below hb x0_0 (by omega)
  replace x0_1 := cell_below hb x0_1 (by omega)
  replace x1_0 := cell_below hb x1_0 (by omega)
  replace x1_1 := cell_below hb x1_1 (by omega)
  replace f1_0 := fro_below hb f1_0 (by omega)
  replace f1_1 := fro_below hb f1_1 (by omega)
  have HB1 := Lib.hid (HB0.out.trans (hb.mono (by omega)))
  clear hb
  go_wp2_with fail
  generalize dot ws ys = d at *
  have e1 : IntKind.i64.wrap (b + d) = b + d := IntWalk.i64_in _ (by omega)
  have HT0 := Lib.hid (show ∀ (wa : World), (wa.cell? ⟨w.heap.size, 0, none⟩ = some (.slice a ws.length c) ∧ wa.cell? ⟨w.heap.size, 1, none⟩ = some (.int .i64 b) ∧ w1.heap.size ≤ wa.heap.size ∧ Below w.heap.size w wa) → (wa.cell? ⟨w.heap.size + 1, 0, none⟩ = some (.slice none 0 0) ∧ wa.cell? ⟨w.heap.size + 1, 1, none⟩ = some (.int .i64 0) ∧ wa.frozen? ⟨w.heap.size + 1, 0, none⟩ = false ∧ wa.frozen? ⟨w.heap.size + 1, 1, none⟩ = false) → Calls Try.prog 82 #[.slice a ws.length c] wa (fun e w' => ∃ (p1 : Option Addr) (q1 : Nat), e = .returned (.slice p1 ws.length q1) ∧ OwnI w1.heap.size w'.heap.size w' (.slice p1 ws.length q1) ws ∧ (w'.cell? ⟨w.heap.size + 1, 0, none⟩ = some (.slice none 0 0) ∧ w'.cell? ⟨w.heap.size + 1, 1, none⟩ = some (.int .i64 0) ∧ w'.frozen? ⟨w.heap.size + 1, 0, none⟩ = false ∧ w'.frozen? ⟨w.heap.size + 1, 1, none⟩ = false) ∧ w'.cell? ⟨w.heap.size, 0, none⟩ = some (.slice a ws.length c) ∧ w'.cell? ⟨w.heap.size, 1, none⟩ = some (.int .i64 b) ∧ w1.heap.size ≤ w'.heap.size ∧ Below w.heap.size w w') from fun wa  hS hQ  => by
    have hwz := hS.2.2.1
    have hB := hS.2.2.2
    refine (clone_own a ws c wa (Hhr.out.below hB) hn (by omega)).mono ?_
    rintro e w' ⟨v, rfl, ho, hb⟩
    obtain ⟨p1, q1, rfl, _, _, _⟩ := ho.slice
    exact ⟨p1, q1, rfl, ho.mono hwz (Nat.le_refl _), ⟨cell_below hb hQ.1 (by omega), cell_below hb hQ.2.1 (by omega), fro_below hb hQ.2.2.1 (by omega), fro_below hb hQ.2.2.2 (by omega)⟩, cell_below hb hS.1 (by omega), cell_below hb hS.2.1 (by omega), Nat.le_trans hwz hb.size, hB.trans (hb.mono hB.size)⟩)
  have HT1 := Lib.hid (show ∀ (wa : World) (p1 : Option Addr) (q1 : Nat), (wa.cell? ⟨w.heap.size, 0, none⟩ = some (.slice a ws.length c) ∧ wa.cell? ⟨w.heap.size, 1, none⟩ = some (.int .i64 b) ∧ w1.heap.size ≤ wa.heap.size ∧ Below w.heap.size w wa) → (wa.cell? ⟨w.heap.size + 1, 0, none⟩ = some (.slice none 0 0) ∧ wa.cell? ⟨w.heap.size + 1, 1, none⟩ = some (.int .i64 0) ∧ wa.frozen? ⟨w.heap.size + 1, 0, none⟩ = false ∧ wa.frozen? ⟨w.heap.size + 1, 1, none⟩ = false) → OwnI w1.heap.size wa.heap.size wa (.slice p1 ws.length q1) ws → Calls Try.prog 98 #[.agg #[.slice p1 ws.length q1, .int .i64 (b + d)]] wa (fun e w' => e = .returned (.tuple #[.agg #[.slice p1 ws.length q1, .int .i64 (b + d)], .bool true]) ∧ OwnI w1.heap.size w'.heap.size w' (.slice p1 ws.length q1) ws ∧ (w'.cell? ⟨w.heap.size + 1, 0, none⟩ = some (.slice none 0 0) ∧ w'.cell? ⟨w.heap.size + 1, 1, none⟩ = some (.int .i64 0) ∧ w'.frozen? ⟨w.heap.size + 1, 0, none⟩ = false ∧ w'.frozen? ⟨w.heap.size + 1, 1, none⟩ = false) ∧ w'.cell? ⟨w.heap.size, 0, none⟩ = some (.slice a ws.length c) ∧ w'.cell? ⟨w.heap.size, 1, none⟩ = some (.int .i64 b) ∧ w1.heap.size ≤ w'.heap.size ∧ Below w.heap.size w w') from fun wa p1 q1 hS hQ k0 => by
    have hwz := hS.2.2.1
    have hB := hS.2.2.2
    refine (impl_kept_yes p1 ws q1 (b + d) wa k0.reads hn hK).mono ?_
    rintro e w' ⟨rfl, hb⟩
    exact ⟨rfl, (k0.below hb).mono (Nat.le_refl _) hb.size, ⟨cell_below hb hQ.1 (by omega), cell_below hb hQ.2.1 (by omega), fro_below hb hQ.2.2.1 (by omega), fro_below hb hQ.2.2.2 (by omega)⟩, cell_below hb hS.1 (by omega), cell_below hb hS.2.1 (by omega), Nat.le_trans hwz hb.size, hB.trans (hb.mono hB.size)⟩)
  go_region_held3 (fun w' => w'.cell? ⟨w.heap.size, 0, none⟩ = some (.slice a ws.length c) ∧ w'.cell? ⟨w.heap.size, 1, none⟩ = some (.int .i64 b) ∧ w1.heap.size ≤ w'.heap.size ∧ Below w.heap.size w w') (first | assumption | exact ⟨x0_0, x0_1, Nat.le_refl _, HB1.out⟩ | exact ⟨x0_0, x0_1, Nat.le_refl _, HB1.out.drew⟩ | exact ⟨cell_set (cell_set hbx.1 (by first | (simp; done) | (simp; omega) | omega) _) (by first | (simp; done) | (simp; omega) | omega) _, cell_set (cell_set hbx.2.1 (by first | (simp; done) | (simp; omega) | omega) _) (by first | (simp; done) | (simp; omega) | omega) _, by rw [size_set, size_set]; exact hbx.2.2.1, (hbx.2.2.2.setCell (by simp) _).setCell (by simp) _⟩) (first | (go_at_call 82; refine Calls.mono (HT0.out _ (by assumption) (by exact ⟨x1_0, x1_1, f1_0, f1_1⟩)) ?_; rintro e v0 ⟨p1, q1, rfl, ho0_0, hq0, hbx⟩) | (go_at_call 98; refine Calls.mono (HT1.out _ _ _ (by assumption) hq0 ho0_0) ?_; rintro e v1 ⟨rfl, ho0_1, hq1, hbx⟩))
  have HO0 := Lib.hid ho0_1
  obtain ⟨g0, g1, g2, g3⟩ := hq1
  have HSZ := Lib.hid hbx.2.2.1
  have HBE := Lib.hid hbx.2.2.2
  go_wp2_with fail
  refine bodyPost_ret (v := .tuple #[.agg #[.slice p1 ws.length q1, .int .i64 (b + d)], .bool true]) (by simp [results, Try.results43, go_sem, g0, g1]) rfl ⟨_, rfl, ?_, ?_⟩
  · simp only [size_set]; exact ((HO0.out.set (by simp; omega) _).set (by simp; omega) _).mono (by omega) (Nat.le_refl _)
  · exact (HBE.out.setCell (by simp) _).setCell (by simp) _
end Go.Proofs.Ytlehlgnenaapaaa.moveplane
