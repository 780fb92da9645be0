/- The walks of the model's and the program's LiftPlane. -/
import Derived.Test.YtlehlgnenaapaaaKept
import Derived.Test.YtlehlgnenaapaaaConcat
import Derived.Test.YtlehlgnenaapaaaSetCell
import Derived.Deep.RegionHeld3
import Derived.Deep.DrawnRows
import Derived.Deep.AppendLies
namespace Go.Proofs.Ytlehlgnenaapaaa.liftplane
open Go.RowKit own own1 pp nums planes kept
set_option linter.unusedVariables false
set_option linter.unusedSimpArgs false
attribute [local go_sem ↓] Go.wp_at_zero Go.wp_at_succ

theorem lift_yes {ws : List Int} {b : Int} (h : planeB ws b = true) (hl : ws.length ≠ 4) : planeB (ws ++ [b]) 0 = true := by
  obtain ⟨h1, h2, h3, h4⟩ := (planeB_iff _ _).1 h
  refine (planeB_iff _ _).2 ⟨by simp, by simp; omega, ?_, by decide⟩
  unfold numsB at h3 ⊢
  rw [List.all_append, h3]
  simp [h4]
theorem fro_old {w : World} (O : Obj) {b o : Nat} (hb : b < w.heap.size) (hx : w.frozen? ⟨b, o, none⟩ = false) : (w.alloc O).frozen? ⟨b, o, none⟩ = false := fro_below (below_alloc w O) hx hb
theorem lift_no {ws : List Int} {b : Int} (hl : ws.length = 4) : planeB (ws ++ [b]) 0 = false := by
  cases h : planeB (ws ++ [b]) 0
  · rfl
  · have := ((planeB_iff _ _).1 h).2.1
    simp [hl] at this
set_option maxRecDepth 100000 in
set_option maxHeartbeats 4000000 in
theorem spec_no (a : Option Addr) (ws : List Int) (c : Nat) (b : Int) (w : World) (hr : ints.Reads .i64 w a ws) (hn : ws.length ≤ 1048576) (h : Hid (planeB ws b = false)) :
    Calls Try.prog 49 #[.agg #[.slice a ws.length c, .int .i64 b]] w (RetPB [] 0 false w) := by
  have Hhr := Lib.hid hr
  clear hr
  go_enter Try.func49, Try.ntmps49
  go_wp2_with fail
  have x0_0 : (w.alloc (.cells #[.slice a ws.length c, .int .i64 b] 26)).cell? ⟨w.heap.size, 0, none⟩ = some (.slice a ws.length c) := cell_new _ _ _ (by simp) rfl
  have x0_1 : (w.alloc (.cells #[.slice a ws.length c, .int .i64 b] 26)).cell? ⟨w.heap.size, 1, none⟩ = some (.int .i64 b) := cell_new _ _ _ (by simp) rfl
  have HB0 := Lib.hid (below_alloc w (.cells #[.slice a ws.length c, .int .i64 b] 26))
  replace x0_0 := cell_old (.cells #[.slice none 0 0, .int .i64 0] 26) x0_0
  replace x0_1 := cell_old (.cells #[.slice none 0 0, .int .i64 0] 26) x0_1
  have x1_0 : ((w.alloc (.cells #[.slice a ws.length c, .int .i64 b] 26)).alloc (.cells #[.slice none 0 0, .int .i64 0] 26)).cell? ⟨w.heap.size + 1, 0, none⟩ = some (.slice none 0 0) := cell_new _ _ _ (by simp) rfl
  have x1_1 : ((w.alloc (.cells #[.slice a ws.length c, .int .i64 b] 26)).alloc (.cells #[.slice none 0 0, .int .i64 0] 26)).cell? ⟨w.heap.size + 1, 1, none⟩ = some (.int .i64 0) := cell_new _ _ _ (by simp) rfl
  have f1_0 : ((w.alloc (.cells #[.slice a ws.length c, .int .i64 b] 26)).alloc (.cells #[.slice none 0 0, .int .i64 0] 26)).frozen? ⟨w.heap.size + 1, 0, none⟩ = false := fro_new _ _ _ (by simp)
  have f1_1 : ((w.alloc (.cells #[.slice a ws.length c, .int .i64 b] 26)).alloc (.cells #[.slice none 0 0, .int .i64 0] 26)).frozen? ⟨w.heap.size + 1, 1, none⟩ = false := fro_new _ _ _ (by simp)
  replace HB0 := Lib.hid (HB0.out.alloc (by simp) (.cells #[.slice none 0 0, .int .i64 0] 26))
  have s0 : w.heap.size + 2 ≤ ((w.alloc (.cells #[.slice a ws.length c, .int .i64 b] 26)).alloc (.cells #[.slice none 0 0, .int .i64 0] 26)).heap.size := by simp
  generalize hw : ((w.alloc (.cells #[.slice a ws.length c, .int .i64 b] 26)).alloc (.cells #[.slice none 0 0, .int .i64 0] 26)) = w0 at *
  clear hw
  have n0_0 : w.heap.size < w0.heap.size := by omega
  have n0_1 : w.heap.size + 1 < w0.heap.size := by omega
  refine (spec_plane a ws c b _ (Hhr.out.below HB0.out) hn false h).mono ?_
  rintro e w1 ⟨rfl, hb⟩
  have s1 : w0.heap.size ≤ w1.heap.size := hb.size
  have n1_0 : w.heap.size < w1.heap.size := by omega
  have n1_1 : w.heap.size + 1 < w1.heap.size := by omega
  replace x0_0 := cell_below hb x0_0 (by omega)
  replace x0_1 := cell_below hb x0_1 (by omega)
  replace x1_0 := cell_below hb x1_0 (by omega)
  replace x1_1 := cell_below hb x1_1 (by omega)
  replace f1_0 := fro_below hb f1_0 (by omega)
  replace f1_1 := fro_below hb f1_1 (by omega)
  have HB1 := Lib.hid (HB0.out.trans (hb.mono (by omega)))
  clear hb
  go_wp2_with fail
  refine bodyPost_ret (v := .tuple #[.agg #[.slice none 0 0, .int .i64 0], .bool false]) (by simp [results, Try.results49, go_sem, x1_0, x1_1]) rfl ⟨_, rfl, OwnI.nil _ _ _, ?_⟩
  exact ((HB1.out.setCell (by simp) _).setCell (by simp) _)
set_option maxRecDepth 100000 in
set_option maxHeartbeats 4000000 in
theorem spec_full (a : Option Addr) (ws : List Int) (c : Nat) (b : Int) (w : World) (hr : ints.Reads .i64 w a ws) (hn : ws.length ≤ 1048576) (h : Hid (planeB ws b = true)) (hl : ws.length = 4) :
    Calls Try.prog 49 #[.agg #[.slice a ws.length c, .int .i64 b]] w (RetPB [] 0 false w) := by
  have HL := Lib.hid hl
  clear hl
  have Hhr := Lib.hid hr
  clear hr
  go_enter Try.func49, Try.ntmps49
  go_wp2_with fail
  have x0_0 : (w.alloc (.cells #[.slice a ws.length c, .int .i64 b] 26)).cell? ⟨w.heap.size, 0, none⟩ = some (.slice a ws.length c) := cell_new _ _ _ (by simp) rfl
  have x0_1 : (w.alloc (.cells #[.slice a ws.length c, .int .i64 b] 26)).cell? ⟨w.heap.size, 1, none⟩ = some (.int .i64 b) := cell_new _ _ _ (by simp) rfl
  have HB0 := Lib.hid (below_alloc w (.cells #[.slice a ws.length c, .int .i64 b] 26))
  replace x0_0 := cell_old (.cells #[.slice none 0 0, .int .i64 0] 26) x0_0
  replace x0_1 := cell_old (.cells #[.slice none 0 0, .int .i64 0] 26) x0_1
  have x1_0 : ((w.alloc (.cells #[.slice a ws.length c, .int .i64 b] 26)).alloc (.cells #[.slice none 0 0, .int .i64 0] 26)).cell? ⟨w.heap.size + 1, 0, none⟩ = some (.slice none 0 0) := cell_new _ _ _ (by simp) rfl
  have x1_1 : ((w.alloc (.cells #[.slice a ws.length c, .int .i64 b] 26)).alloc (.cells #[.slice none 0 0, .int .i64 0] 26)).cell? ⟨w.heap.size + 1, 1, none⟩ = some (.int .i64 0) := cell_new _ _ _ (by simp) rfl
  have f1_0 : ((w.alloc (.cells #[.slice a ws.length c, .int .i64 b] 26)).alloc (.cells #[.slice none 0 0, .int .i64 0] 26)).frozen? ⟨w.heap.size + 1, 0, none⟩ = false := fro_new _ _ _ (by simp)
  have f1_1 : ((w.alloc (.cells #[.slice a ws.length c, .int .i64 b] 26)).alloc (.cells #[.slice none 0 0, .int .i64 0] 26)).frozen? ⟨w.heap.size + 1, 1, none⟩ = false := fro_new _ _ _ (by simp)
  replace HB0 := Lib.hid (HB0.out.alloc (by simp) (.cells #[.slice none 0 0, .int .i64 0] 26))
  have s0 : w.heap.size + 2 ≤ ((w.alloc (.cells #[.slice a ws.length c, .int .i64 b] 26)).alloc (.cells #[.slice none 0 0, .int .i64 0] 26)).heap.size := by simp
  generalize hw : ((w.alloc (.cells #[.slice a ws.length c, .int .i64 b] 26)).alloc (.cells #[.slice none 0 0, .int .i64 0] 26)) = w0 at *
  clear hw
  have n0_0 : w.heap.size < w0.heap.size := by omega
  have n0_1 : w.heap.size + 1 < w0.heap.size := by omega
  refine (spec_plane a ws c b _ (Hhr.out.below HB0.out) hn true h).mono ?_
  rintro e w1 ⟨rfl, hb⟩
  have s1 : w0.heap.size ≤ w1.heap.size := hb.size
  have n1_0 : w.heap.size < w1.heap.size := by omega
  have n1_1 : w.heap.size + 1 < w1.heap.size := by omega
  replace x0_0 := cell_below hb x0_0 (by omega)
  replace x0_1 := cell_below hb x0_1 (by omega)
  replace x1_0 := cell_below hb x1_0 (by omega)
  replace x1_1 := cell_below hb x1_1 (by omega)
  replace f1_0 := fro_below hb f1_0 (by omega)
  replace f1_1 := fro_below hb f1_1 (by omega)
  have HB1 := Lib.hid (HB0.out.trans (hb.mono (by omega)))
  clear hb
  rw [HL.out] at x0_0
  go_wp2_with fail
  refine bodyPost_ret (v := .tuple #[.agg #[.slice none 0 0, .int .i64 0], .bool false]) (by simp [results, Try.results49, go_sem, x1_0, x1_1]) rfl ⟨_, rfl, OwnI.nil _ _ _, ?_⟩
  exact ((HB1.out.setCell (by simp) _).setCell (by simp) _)
set_option maxRecDepth 100000 in
set_option maxHeartbeats 4000000 in
theorem spec_yes (a : Option Addr) (ws : List Int) (c : Nat) (b : Int) (w : World) (hr : ints.Reads .i64 w a ws) (hn : ws.length ≤ 1048576) (h : Hid (planeB ws b = true)) (hl : ws.length ≠ 4) :
    Calls Try.prog 49 #[.agg #[.slice a ws.length c, .int .i64 b]] w (RetPB (ws ++ [b]) 0 true w) := by
  obtain ⟨p1', p2', p3', p4'⟩ := (planeB_iff _ _).1 h.out
  obtain ⟨i0, hi, hz0, hz1, hz2⟩ := info_parts infoInt
  have g4 : ¬ ((ws.length : Int) = 4) := by omega
  have Hhr := Lib.hid hr
  clear hr
  go_enter Try.func49, Try.ntmps49
  go_wp2_with fail
  have x0_0 : (w.alloc (.cells #[.slice a ws.length c, .int .i64 b] 26)).cell? ⟨w.heap.size, 0, none⟩ = some (.slice a ws.length c) := cell_new _ _ _ (by simp) rfl
  have x0_1 : (w.alloc (.cells #[.slice a ws.length c, .int .i64 b] 26)).cell? ⟨w.heap.size, 1, none⟩ = some (.int .i64 b) := cell_new _ _ _ (by simp) rfl
  have HB0 := Lib.hid (below_alloc w (.cells #[.slice a ws.length c, .int .i64 b] 26))
  replace x0_0 := cell_old (.cells #[.slice none 0 0, .int .i64 0] 26) x0_0
  replace x0_1 := cell_old (.cells #[.slice none 0 0, .int .i64 0] 26) x0_1
  have x1_0 : ((w.alloc (.cells #[.slice a ws.length c, .int .i64 b] 26)).alloc (.cells #[.slice none 0 0, .int .i64 0] 26)).cell? ⟨w.heap.size + 1, 0, none⟩ = some (.slice none 0 0) := cell_new _ _ _ (by simp) rfl
  have x1_1 : ((w.alloc (.cells #[.slice a ws.length c, .int .i64 b] 26)).alloc (.cells #[.slice none 0 0, .int .i64 0] 26)).cell? ⟨w.heap.size + 1, 1, none⟩ = some (.int .i64 0) := cell_new _ _ _ (by simp) rfl
  have f1_0 : ((w.alloc (.cells #[.slice a ws.length c, .int .i64 b] 26)).alloc (.cells #[.slice none 0 0, .int .i64 0] 26)).frozen? ⟨w.heap.size + 1, 0, none⟩ = false := fro_new _ _ _ (by simp)
  have f1_1 : ((w.alloc (.cells #[.slice a ws.length c, .int .i64 b] 26)).alloc (.cells #[.slice none 0 0, .int .i64 0] 26)).frozen? ⟨w.heap.size + 1, 1, none⟩ = false := fro_new _ _ _ (by simp)
  replace HB0 := Lib.hid (HB0.out.alloc (by simp) (.cells #[.slice none 0 0, .int .i64 0] 26))
  have s0 : w.heap.size + 2 ≤ ((w.alloc (.cells #[.slice a ws.length c, .int .i64 b] 26)).alloc (.cells #[.slice none 0 0, .int .i64 0] 26)).heap.size := by simp
  generalize hw : ((w.alloc (.cells #[.slice a ws.length c, .int .i64 b] 26)).alloc (.cells #[.slice none 0 0, .int .i64 0] 26)) = w0 at *
  clear hw
  have n0_0 : w.heap.size < w0.heap.size := by omega
  have n0_1 : w.heap.size + 1 < w0.heap.size := by omega
  refine (spec_plane a ws c b _ (Hhr.out.below HB0.out) hn true h).mono ?_
  rintro e w1 ⟨rfl, hb⟩
  have s1 : w0.heap.size ≤ w1.heap.size := hb.size
  have n1_0 : w.heap.size < w1.heap.size := by omega
  have n1_1 : w.heap.size + 1 < w1.heap.size := by omega
  replace x0_0 := cell_below hb x0_0 (by omega)
  replace x0_1 := cell_below hb x0_1 (by omega)
  replace x1_0 := cell_below hb x1_0 (by omega)
  replace x1_1 := cell_below hb x1_1 (by omega)
  replace f1_0 := fro_below hb f1_0 (by omega)
  replace f1_1 := fro_below hb f1_1 (by omega)
  have HB1 := Lib.hid (HB0.out.trans (hb.mono (by omega)))
  clear hb
  go_wp2_with fail
  have HT0 := Lib.hid (show ∀ wa : World, (wa.cell? ⟨w.heap.size, 0, none⟩ = some (.slice a ws.length c) ∧ wa.cell? ⟨w.heap.size, 1, none⟩ = some (.int .i64 b) ∧ w1.heap.size ≤ wa.heap.size ∧ Below w.heap.size w wa) → (wa.cell? ⟨w.heap.size + 1, 0, none⟩ = some (.slice none 0 0) ∧ wa.cell? ⟨w.heap.size + 1, 1, none⟩ = some (.int .i64 0) ∧ wa.frozen? ⟨w.heap.size + 1, 0, none⟩ = false ∧ wa.frozen? ⟨w.heap.size + 1, 1, none⟩ = false) → Calls Try.prog 88 #[.slice a ws.length c] wa (fun e w' => ∃ (p1 : Option Addr) (q1 : Nat), e = .returned (.slice p1 ws.length q1) ∧ w'.ownsRow w1.heap.size 3 1 (.slice p1 ws.length q1) ws.length (ws.map (Value.int .i64)) ∧ Below wa.heap.size wa w' ∧ (w'.cell? ⟨w.heap.size + 1, 0, none⟩ = some (.slice none 0 0) ∧ w'.cell? ⟨w.heap.size + 1, 1, none⟩ = some (.int .i64 0) ∧ w'.frozen? ⟨w.heap.size + 1, 0, none⟩ = false ∧ w'.frozen? ⟨w.heap.size + 1, 1, none⟩ = false) ∧ w'.cell? ⟨w.heap.size, 0, none⟩ = some (.slice a ws.length c) ∧ w'.cell? ⟨w.heap.size, 1, none⟩ = some (.int .i64 b) ∧ w1.heap.size ≤ w'.heap.size ∧ Below w.heap.size w w') from fun wa hS hQ => by
    have hwz := hS.2.2.1
    have hB := hS.2.2.2
    refine (spec_own a ws c wa (Hhr.out.below hB) hn (by omega)).mono ?_
    rintro e w' ⟨v, rfl, ho, hb⟩
    obtain ⟨p1, q1, rfl, _, _, _⟩ := ho.slice
    exact ⟨p1, q1, rfl, ownsRow_base ho.1 (fun g hg => Nat.le_trans hwz (ho.lt hg).1), hb, ⟨cell_below hb hQ.1 (by omega), cell_below hb hQ.2.1 (by omega), fro_below hb hQ.2.2.1 (by omega), fro_below hb hQ.2.2.2 (by omega)⟩, cell_below hb hS.1 (by omega), cell_below hb hS.2.1 (by omega), Nat.le_trans hwz hb.size, hB.trans (hb.mono hB.size)⟩)
  have HA := Lib.hid (show ∀ (W W3 : World) (o : Option Nat), (W.cell? ⟨w.heap.size, 0, none⟩ = some (.slice a ws.length c) ∧ W.cell? ⟨w.heap.size, 1, none⟩ = some (.int .i64 b) ∧ w1.heap.size ≤ W.heap.size ∧ Below w.heap.size w W) → (W.cell? ⟨w.heap.size + 1, 0, none⟩ = some (.slice none 0 0) ∧ W.cell? ⟨w.heap.size + 1, 1, none⟩ = some (.int .i64 0) ∧ W.frozen? ⟨w.heap.size + 1, 0, none⟩ = false ∧ W.frozen? ⟨w.heap.size + 1, 1, none⟩ = false) → W.grownBy W3 o → (∀ g, o = some g → w1.heap.size ≤ g) → (W3.cell? ⟨w.heap.size, 0, none⟩ = some (.slice a ws.length c) ∧ W3.cell? ⟨w.heap.size, 1, none⟩ = some (.int .i64 b) ∧ w1.heap.size ≤ W3.heap.size ∧ Below w.heap.size w W3) ∧ W3.cell? ⟨w.heap.size + 1, 0, none⟩ = some (.slice none 0 0) ∧ W3.cell? ⟨w.heap.size + 1, 1, none⟩ = some (.int .i64 0) ∧ W3.frozen? ⟨w.heap.size + 1, 0, none⟩ = false ∧ W3.frozen? ⟨w.heap.size + 1, 1, none⟩ = false from fun W W3 o hS hQ hg ho => by
    have nf : ∀ q, some q = o → q < w1.heap.size → False := fun q e h => by have := ho q e.symm; omega
    have h1 := hS.2.2.1
    exact ⟨⟨hg.cell hS.1 (fun e => nf _ e (by simp; omega)), hg.cell hS.2.1 (fun e => nf _ e (by simp; omega)), Nat.le_trans h1 hg.size, hS.2.2.2.grown hg (by omega) (fun g e => Nat.le_trans (by omega) (ho g e))⟩, hg.cell hQ.1 (fun e => nf _ e (by simp; omega)), hg.cell hQ.2.1 (fun e => nf _ e (by simp; omega)), (hg.frozen_far ⟨w.heap.size + 1, 0, none⟩ (by simp; omega) (fun e => nf _ e (by simp; omega))).trans hQ.2.2.1, (hg.frozen_far ⟨w.heap.size + 1, 1, none⟩ (by simp; omega) (fun e => nf _ e (by simp; omega))).trans hQ.2.2.2⟩)
  go_region_held3 (fun w' => w'.cell? ⟨w.heap.size, 0, none⟩ = some (.slice a ws.length c) ∧ w'.cell? ⟨w.heap.size, 1, none⟩ = some (.int .i64 b) ∧ w1.heap.size ≤ w'.heap.size ∧ Below w.heap.size w w') (first | assumption | exact ⟨x0_0, x0_1, Nat.le_refl _, HB1.out⟩ | exact ⟨x0_0, x0_1, Nat.le_refl _, HB1.out.drew⟩ | exact ⟨cell_old _ x0_0, cell_old _ x0_1, by simp, HB1.out.alloc (by omega) _⟩ | exact ⟨cell_old _ x0_0, cell_old _ x0_1, by simp, HB1.out.drew.alloc (by simp; omega) _⟩ | exact ⟨cell_old _ hbx.1, cell_old _ hbx.2.1, Nat.le_trans hbx.2.2.1 (by simp), hbx.2.2.2.alloc (Nat.le_trans (by omega) hbx.2.2.1) _⟩ | exact ⟨cell_set (cell_set hbx.1 (by simp) _) (by simp) _, cell_set (cell_set hbx.2.1 (by simp) _) (by simp) _, by rw [size_set, size_set]; exact hbx.2.2.1, (hbx.2.2.2.setCell (by simp) _).setCell (by simp) _⟩) (first | (go_at_call 88; refine Calls.mono (HT0.out _ ?_ ?_) ?_; assumption; (first | exact ⟨x1_0, x1_1, f1_0, f1_1⟩ | exact ⟨cell_old _ x1_0, cell_old _ x1_1, fro_old _ n1_1 f1_0, fro_old _ n1_1 f1_1⟩); rintro e v0 ⟨p1, q1, rfl, ho0, hbel0, hq0, hbx⟩) | (refine step_append_lies _ (by rfl) _ _ _ (by rfl) w1.heap.size 3 i0 _ 1 8 Try.underlying24 hi hz0 hz1 hz2 rfl (by omega) (.slice p1 ws.length q1) ws.length (ws.map (Value.int .i64)) (by rfl) (ho0.alloc _) ⟨v0.heap.size, 0, none⟩ 1 1 [.int .i64 b] (by rfl) (by rfl) (World.news_of_block (cs := #[.int .i64 b]) (t := 3) (fr := (0, 0)) (heap_alloc_new v0 _)) (by simp [Value.oneCell']) (by omega) (by unfold maxLen; omega) (by omega) (Nat.le_trans hbx.2.2.1 (by simp)) _ rfl ?_; intro gg cap w3 hown1 hgrow hat hlt; obtain ⟨hbx, hq3⟩ := HA.out _ _ _ (⟨cell_old _ hbx.1, cell_old _ hbx.2.1, Nat.le_trans hbx.2.2.1 (by simp), hbx.2.2.2.alloc (Nat.le_trans (by omega) hbx.2.2.1) _⟩) (⟨cell_old _ hq0.1, cell_old _ hq0.2.1, fro_old _ (by have := hbx.2.2.1; omega) hq0.2.2.1, fro_old _ (by have := hbx.2.2.1; omega) hq0.2.2.2⟩) hgrow (fun g e => (ho0.lt g e).1)) | (refine step_append_lies _ (by rfl) _ _ _ (by rfl) w1.heap.size 3 i0 _ 1 8 Try.underlying24 hi hz0 hz1 hz2 rfl (by omega) (.slice p1 ws.length q1) ws.length (ws.map (Value.int .i64)) (by rfl) (ho0) ⟨w1.heap.size, 0, none⟩ 1 1 [.int .i64 b] (by rfl) (by rfl) (World.news_of_block (cs := #[.int .i64 b]) (t := 3) (fr := (0, 0)) ((hbel0.block _ (by simp)).trans (heap_alloc_new _ _))) (by simp [Value.oneCell']) (by omega) (by unfold maxLen; omega) (by omega) hbx.2.2.1 _ rfl ?_; intro gg cap w3 hown1 hgrow hat hlt; obtain ⟨hbx, hq3⟩ := HA.out _ _ _ (hbx) (hq0) hgrow (fun g e => (ho0.lt g e).1)))
  all_goals (
    have HO1 := Lib.hid (show OwnI w1.heap.size w3.heap.size w3 (.slice (some ⟨gg, 0, none⟩) (ws.length + 1) cap) (ws ++ [b]) from OwnI.of (by simpa using hown1))
    have HBE := Lib.hid hbx.2.2.2
    obtain ⟨q0, q1, q2, q3⟩ := hq3
    clear hown1 hgrow hat
    go_wp2_with fail
    refine bodyPost_ret (v := .tuple #[.agg #[.slice (some ⟨gg, 0, none⟩) (ws.length + 1) cap, .int .i64 0], .bool true]) (by simp [results, Try.results49, go_sem, q0, q1]) rfl ⟨_, rfl, ?_, ?_⟩
    · simp only [size_set]; exact ((HO1.out.set (by simp; omega) _).set (by simp; omega) _).mono (by omega) (Nat.le_refl _)
    · exact (HBE.out.setCell (by simp) _).setCell (by simp) _)
set_option maxRecDepth 100000 in
set_option maxHeartbeats 4000000 in
theorem impl_no (a : Option Addr) (ws : List Int) (c : Nat) (b : Int) (w : World) (hr : ints.Reads .i64 w a ws) (hn : ws.length ≤ 1048576) (h : Hid (planeB ws b = false)) :
    Calls Try.prog 50 #[.agg #[.slice a ws.length c, .int .i64 b]] w (RetPB [] 0 false w) := by
  have Hhr := Lib.hid hr
  clear hr
  go_enter Try.func50, Try.ntmps50
  go_wp2_with fail
  have x0_0 : (w.alloc (.cells #[.slice a ws.length c, .int .i64 b] 26)).cell? ⟨w.heap.size, 0, none⟩ = some (.slice a ws.length c) := cell_new _ _ _ (by simp) rfl
  have x0_1 : (w.alloc (.cells #[.slice a ws.length c, .int .i64 b] 26)).cell? ⟨w.heap.size, 1, none⟩ = some (.int .i64 b) := cell_new _ _ _ (by simp) rfl
  have HB0 := Lib.hid (below_alloc w (.cells #[.slice a ws.length c, .int .i64 b] 26))
  replace x0_0 := cell_old (.cells #[.slice none 0 0, .int .i64 0] 26) x0_0
  replace x0_1 := cell_old (.cells #[.slice none 0 0, .int .i64 0] 26) x0_1
  have x1_0 : ((w.alloc (.cells #[.slice a ws.length c, .int .i64 b] 26)).alloc (.cells #[.slice none 0 0, .int .i64 0] 26)).cell? ⟨w.heap.size + 1, 0, none⟩ = some (.slice none 0 0) := cell_new _ _ _ (by simp) rfl
  have x1_1 : ((w.alloc (.cells #[.slice a ws.length c, .int .i64 b] 26)).alloc (.cells #[.slice none 0 0, .int .i64 0] 26)).cell? ⟨w.heap.size + 1, 1, none⟩ = some (.int .i64 0) := cell_new _ _ _ (by simp) rfl
  have f1_0 : ((w.alloc (.cells #[.slice a ws.length c, .int .i64 b] 26)).alloc (.cells #[.slice none 0 0, .int .i64 0] 26)).frozen? ⟨w.heap.size + 1, 0, none⟩ = false := fro_new _ _ _ (by simp)
  have f1_1 : ((w.alloc (.cells #[.slice a ws.length c, .int .i64 b] 26)).alloc (.cells #[.slice none 0 0, .int .i64 0] 26)).frozen? ⟨w.heap.size + 1, 1, none⟩ = false := fro_new _ _ _ (by simp)
  replace HB0 := Lib.hid (HB0.out.alloc (by simp) (.cells #[.slice none 0 0, .int .i64 0] 26))
  have s0 : w.heap.size + 2 ≤ ((w.alloc (.cells #[.slice a ws.length c, .int .i64 b] 26)).alloc (.cells #[.slice none 0 0, .int .i64 0] 26)).heap.size := by simp
  generalize hw : ((w.alloc (.cells #[.slice a ws.length c, .int .i64 b] 26)).alloc (.cells #[.slice none 0 0, .int .i64 0] 26)) = w0 at *
  clear hw
  have n0_0 : w.heap.size < w0.heap.size := by omega
  have n0_1 : w.heap.size + 1 < w0.heap.size := by omega
  refine (impl_plane a ws c b _ (Hhr.out.below HB0.out) hn false h).mono ?_
  rintro e w1 ⟨rfl, hb⟩
  have s1 : w0.heap.size ≤ w1.heap.size := hb.size
  have n1_0 : w.heap.size < w1.heap.size := by omega
  have n1_1 : w.heap.size + 1 < w1.heap.size := by omega
  replace x0_0 := cell_below hb x0_0 (by omega)
  replace x0_1 := cell_below hb x0_1 (by omega)
  replace x1_0 := cell_below hb x1_0 (by omega)
  replace x1_1 := cell_below hb x1_1 (by omega)
  replace f1_0 := fro_below hb f1_0 (by omega)
  replace f1_1 := fro_below hb f1_1 (by omega)
  have HB1 := Lib.hid (HB0.out.trans (hb.mono (by omega)))
  clear hb
  go_wp2_with fail
  refine bodyPost_ret (v := .tuple #[.agg #[.slice none 0 0, .int .i64 0], .bool false]) (by simp [results, Try.results50, go_sem, x1_0, x1_1]) rfl ⟨_, rfl, OwnI.nil _ _ _, ?_⟩
  exact ((HB1.out.setCell (by simp) _).setCell (by simp) _)
set_option maxRecDepth 100000 in
set_option maxHeartbeats 4000000 in
theorem impl_full (a : Option Addr) (ws : List Int) (c : Nat) (b : Int) (w : World) (hr : ints.Reads .i64 w a ws) (hn : ws.length ≤ 1048576) (h : Hid (planeB ws b = true)) (hl : ws.length = 4) :
    Calls Try.prog 50 #[.agg #[.slice a ws.length c, .int .i64 b]] w (RetPB [] 0 false w) := by
  obtain ⟨p1', p2', p3', p4'⟩ := (planeB_iff _ _).1 h.out
  have HL := Lib.hid hl
  clear hl
  have Hhr := Lib.hid hr
  clear hr
  go_enter Try.func50, Try.ntmps50
  go_wp2_with fail
  have x0_0 : (w.alloc (.cells #[.slice a ws.length c, .int .i64 b] 26)).cell? ⟨w.heap.size, 0, none⟩ = some (.slice a ws.length c) := cell_new _ _ _ (by simp) rfl
  have x0_1 : (w.alloc (.cells #[.slice a ws.length c, .int .i64 b] 26)).cell? ⟨w.heap.size, 1, none⟩ = some (.int .i64 b) := cell_new _ _ _ (by simp) rfl
  have HB0 := Lib.hid (below_alloc w (.cells #[.slice a ws.length c, .int .i64 b] 26))
  replace x0_0 := cell_old (.cells #[.slice none 0 0, .int .i64 0] 26) x0_0
  replace x0_1 := cell_old (.cells #[.slice none 0 0, .int .i64 0] 26) x0_1
  have x1_0 : ((w.alloc (.cells #[.slice a ws.length c, .int .i64 b] 26)).alloc (.cells #[.slice none 0 0, .int .i64 0] 26)).cell? ⟨w.heap.size + 1, 0, none⟩ = some (.slice none 0 0) := cell_new _ _ _ (by simp) rfl
  have x1_1 : ((w.alloc (.cells #[.slice a ws.length c, .int .i64 b] 26)).alloc (.cells #[.slice none 0 0, .int .i64 0] 26)).cell? ⟨w.heap.size + 1, 1, none⟩ = some (.int .i64 0) := cell_new _ _ _ (by simp) rfl
  have f1_0 : ((w.alloc (.cells #[.slice a ws.length c, .int .i64 b] 26)).alloc (.cells #[.slice none 0 0, .int .i64 0] 26)).frozen? ⟨w.heap.size + 1, 0, none⟩ = false := fro_new _ _ _ (by simp)
  have f1_1 : ((w.alloc (.cells #[.slice a ws.length c, .int .i64 b] 26)).alloc (.cells #[.slice none 0 0, .int .i64 0] 26)).frozen? ⟨w.heap.size + 1, 1, none⟩ = false := fro_new _ _ _ (by simp)
  replace HB0 := Lib.hid (HB0.out.alloc (by simp) (.cells #[.slice none 0 0, .int .i64 0] 26))
  have s0 : w.heap.size + 2 ≤ ((w.alloc (.cells #[.slice a ws.length c, .int .i64 b] 26)).alloc (.cells #[.slice none 0 0, .int .i64 0] 26)).heap.size := by simp
  generalize hw : ((w.alloc (.cells #[.slice a ws.length c, .int .i64 b] 26)).alloc (.cells #[.slice none 0 0, .int .i64 0] 26)) = w0 at *
  clear hw
  have n0_0 : w.heap.size < w0.heap.size := by omega
  have n0_1 : w.heap.size + 1 < w0.heap.size := by omega
  refine (impl_plane a ws c b _ (Hhr.out.below HB0.out) hn true h).mono ?_
  rintro e w1 ⟨rfl, hb⟩
  have s1 : w0.heap.size ≤ w1.heap.size := hb.size
  have n1_0 : w.heap.size < w1.heap.size := by omega
  have n1_1 : w.heap.size + 1 < w1.heap.size := by omega
  replace x0_0 := cell_below hb x0_0 (by omega)
  replace x0_1 := cell_below hb x0_1 (by omega)
  replace x1_0 := cell_below hb x1_0 (by omega)
  replace x1_1 := cell_below hb x1_1 (by omega)
  replace f1_0 := fro_below hb f1_0 (by omega)
  replace f1_1 := fro_below hb f1_1 (by omega)
  have HB1 := Lib.hid (HB0.out.trans (hb.mono (by omega)))
  clear hb
  go_wp2_with fail
  have hbA := (below_alloc w1 (.cells #[.int .i64 b] 3)).alloc (by simp) (.cells #[.slice a ws.length c, .slice (some ⟨w1.heap.size, 0, none⟩) 1 1] 24)
  have c0 : ((w1.alloc (.cells #[.int .i64 b] 3)).alloc (.cells #[.slice a ws.length c, .slice (some ⟨w1.heap.size, 0, none⟩) 1 1] 24)).cell? ⟨w1.heap.size + 1, 0, none⟩ = some (.slice a ws.length c) := cell_new _ _ _ (by simp) rfl
  have c1 : ((w1.alloc (.cells #[.int .i64 b] 3)).alloc (.cells #[.slice a ws.length c, .slice (some ⟨w1.heap.size, 0, none⟩) 1 1] 24)).cell? ⟨w1.heap.size + 1, 1, none⟩ = some (.slice (some ⟨w1.heap.size, 0, none⟩) [b].length 1) := cell_new _ _ _ (by simp) rfl
  have hrb : ints.Reads .i64 ((w1.alloc (.cells #[.int .i64 b] 3)).alloc (.cells #[.slice a ws.length c, .slice (some ⟨w1.heap.size, 0, none⟩) 1 1] 24)) (some ⟨w1.heap.size, 0, none⟩) [b] := Or.inr ⟨w1.heap.size, 0, rfl, by first | (simp; done) | (simp; omega), fun i hi => by (have h9 : i = 0 := by (simp at hi; omega)); subst h9; exact cell_old _ (cell_new _ _ _ rfl rfl)⟩
  refine (concat.concat (w1.heap.size + 1) 2 a ws c (some ⟨w1.heap.size, 0, none⟩) [b] 1 ((w1.alloc (.cells #[.int .i64 b] 3)).alloc (.cells #[.slice a ws.length c, .slice (some ⟨w1.heap.size, 0, none⟩) 1 1] 24)) (Hhr.out.below (HB1.out.trans (hbA.mono (by omega)))) hrb (by omega) (by simp) hn (by simp) c0 c1 (by simp)).mono ?_
  clear c0 c1 hrb
  rintro e w2 ⟨v, rfl, ho, hbB⟩
  obtain ⟨p1, q1, rfl, _, _, _⟩ := ho.slice
  have hb := hbA.trans (hbB.mono (by simp; omega))
  clear hbA
  have HO := Lib.hid (ho.mono (lo' := w1.heap.size) (by simp; omega) (Nat.le_refl _))
  clear ho hbB
  have s2 : w1.heap.size ≤ w2.heap.size := hb.size
  have n2_0 : w.heap.size < w2.heap.size := by omega
  have n2_1 : w.heap.size + 1 < w2.heap.size := by omega
  replace x0_0 := cell_below hb x0_0 (by omega)
  replace x0_1 := cell_below hb x0_1 (by omega)
  replace x1_0 := cell_below hb x1_0 (by omega)
  replace x1_1 := cell_below hb x1_1 (by omega)
  replace f1_0 := fro_below hb f1_0 (by omega)
  replace f1_1 := fro_below hb f1_1 (by omega)
  have HB2 := Lib.hid (HB1.out.trans (hb.mono (by omega)))
  clear hb
  generalize hz : ws ++ [b] = zs at *
  have HZ := Lib.hid hz
  clear hz
  go_wp2_with fail
  skip
  refine (impl_kept_no p1 zs q1 0 _ HO.out.reads (by rw [← HZ.out]; simp; omega) (Lib.hid (by rw [← HZ.out]; exact lift_no HL.out))).mono ?_
  rintro e w3 ⟨rfl, hb⟩
  have s3 : w2.heap.size ≤ w3.heap.size := hb.size
  have n3_0 : w.heap.size < w3.heap.size := by omega
  have n3_1 : w.heap.size + 1 < w3.heap.size := by omega
  replace x0_0 := cell_below hb x0_0 (by omega)
  replace x0_1 := cell_below hb x0_1 (by omega)
  replace x1_0 := cell_below hb x1_0 (by omega)
  replace x1_1 := cell_below hb x1_1 (by omega)
  replace f1_0 := fro_below hb f1_0 (by omega)
  replace f1_1 := fro_below hb f1_1 (by omega)
  replace HO := Lib.hid (HO.out.below hb)
  have HB3 := Lib.hid (HB2.out.trans (hb.mono (by omega)))
  clear hb
  go_wp2_with fail
  refine bodyPost_ret (v := .tuple #[.agg #[.slice none 0 0, .int .i64 0], .bool false]) (by simp [results, Try.results50, go_sem, x1_0, x1_1]) rfl ⟨_, rfl, OwnI.nil _ _ _, ?_⟩
  exact ((HB3.out.setCell (by simp) _).setCell (by simp) _)
set_option maxRecDepth 100000 in
set_option maxHeartbeats 4000000 in
theorem impl_yes (a : Option Addr) (ws : List Int) (c : Nat) (b : Int) (w : World) (hr : ints.Reads .i64 w a ws) (hn : ws.length ≤ 1048576) (h : Hid (planeB ws b = true)) (hl : ws.length ≠ 4) :
    Calls Try.prog 50 #[.agg #[.slice a ws.length c, .int .i64 b]] w (RetPB (ws ++ [b]) 0 true w) := by
  obtain ⟨p1', p2', p3', p4'⟩ := (planeB_iff _ _).1 h.out
  have Hhr := Lib.hid hr
  clear hr
  go_enter Try.func50, Try.ntmps50
  go_wp2_with fail
  have x0_0 : (w.alloc (.cells #[.slice a ws.length c, .int .i64 b] 26)).cell? ⟨w.heap.size, 0, none⟩ = some (.slice a ws.length c) := cell_new _ _ _ (by simp) rfl
  have x0_1 : (w.alloc (.cells #[.slice a ws.length c, .int .i64 b] 26)).cell? ⟨w.heap.size, 1, none⟩ = some (.int .i64 b) := cell_new _ _ _ (by simp) rfl
  have HB0 := Lib.hid (below_alloc w (.cells #[.slice a ws.length c, .int .i64 b] 26))
  replace x0_0 := cell_old (.cells #[.slice none 0 0, .int .i64 0] 26) x0_0
  replace x0_1 := cell_old (.cells #[.slice none 0 0, .int .i64 0] 26) x0_1
  have x1_0 : ((w.alloc (.cells #[.slice a ws.length c, .int .i64 b] 26)).alloc (.cells #[.slice none 0 0, .int .i64 0] 26)).cell? ⟨w.heap.size + 1, 0, none⟩ = some (.slice none 0 0) := cell_new _ _ _ (by simp) rfl
  have x1_1 : ((w.alloc (.cells #[.slice a ws.length c, .int .i64 b] 26)).alloc (.cells #[.slice none 0 0, .int .i64 0] 26)).cell? ⟨w.heap.size + 1, 1, none⟩ = some (.int .i64 0) := cell_new _ _ _ (by simp) rfl
  have f1_0 : ((w.alloc (.cells #[.slice a ws.length c, .int .i64 b] 26)).alloc (.cells #[.slice none 0 0, .int .i64 0] 26)).frozen? ⟨w.heap.size + 1, 0, none⟩ = false := fro_new _ _ _ (by simp)
  have f1_1 : ((w.alloc (.cells #[.slice a ws.length c, .int .i64 b] 26)).alloc (.cells #[.slice none 0 0, .int .i64 0] 26)).frozen? ⟨w.heap.size + 1, 1, none⟩ = false := fro_new _ _ _ (by simp)
  replace HB0 := Lib.hid (HB0.out.alloc (by simp) (.cells #[.slice none 0 0, .int .i64 0] 26))
  have s0 : w.heap.size + 2 ≤ ((w.alloc (.cells #[.slice a ws.length c, .int .i64 b] 26)).alloc (.cells #[.slice none 0 0, .int .i64 0] 26)).heap.size := by simp
  generalize hw : ((w.alloc (.cells #[.slice a ws.length c, .int .i64 b] 26)).alloc (.cells #[.slice none 0 0, .int .i64 0] 26)) = w0 at *
  clear hw
  have n0_0 : w.heap.size < w0.heap.size := by omega
  have n0_1 : w.heap.size + 1 < w0.heap.size := by omega
  refine (impl_plane a ws c b _ (Hhr.out.below HB0.out) hn true h).mono ?_
  rintro e w1 ⟨rfl, hb⟩
  have s1 : w0.heap.size ≤ w1.heap.size := hb.size
  have n1_0 : w.heap.size < w1.heap.size := by omega
  have n1_1 : w.heap.size + 1 < w1.heap.size := by omega
  replace x0_0 := cell_below hb x0_0 (by omega)
  replace x0_1 := cell_below hb x0_1 (by omega)
  replace x1_0 := cell_below hb x1_0 (by omega)
  replace x1_1 := cell_below hb x1_1 (by omega)
  replace f1_0 := fro_below hb f1_0 (by omega)
  replace f1_1 := fro_below hb f1_1 (by omega)
  have HB1 := Lib.hid (HB0.out.trans (hb.mono (by omega)))
  clear hb
  go_wp2_with fail
  have hbA := (below_alloc w1 (.cells #[.int .i64 b] 3)).alloc (by simp) (.cells #[.slice a ws.length c, .slice (some ⟨w1.heap.size, 0, none⟩) 1 1] 24)
  have c0 : ((w1.alloc (.cells #[.int .i64 b] 3)).alloc (.cells #[.slice a ws.length c, .slice (some ⟨w1.heap.size, 0, none⟩) 1 1] 24)).cell? ⟨w1.heap.size + 1, 0, none⟩ = some (.slice a ws.length c) := cell_new _ _ _ (by simp) rfl
  have c1 : ((w1.alloc (.cells #[.int .i64 b] 3)).alloc (.cells #[.slice a ws.length c, .slice (some ⟨w1.heap.size, 0, none⟩) 1 1] 24)).cell? ⟨w1.heap.size + 1, 1, none⟩ = some (.slice (some ⟨w1.heap.size, 0, none⟩) [b].length 1) := cell_new _ _ _ (by simp) rfl
  have hrb : ints.Reads .i64 ((w1.alloc (.cells #[.int .i64 b] 3)).alloc (.cells #[.slice a ws.length c, .slice (some ⟨w1.heap.size, 0, none⟩) 1 1] 24)) (some ⟨w1.heap.size, 0, none⟩) [b] := Or.inr ⟨w1.heap.size, 0, rfl, by first | (simp; done) | (simp; omega), fun i hi => by (have h9 : i = 0 := by (simp at hi; omega)); subst h9; exact cell_old _ (cell_new _ _ _ rfl rfl)⟩
  refine (concat.concat (w1.heap.size + 1) 2 a ws c (some ⟨w1.heap.size, 0, none⟩) [b] 1 ((w1.alloc (.cells #[.int .i64 b] 3)).alloc (.cells #[.slice a ws.length c, .slice (some ⟨w1.heap.size, 0, none⟩) 1 1] 24)) (Hhr.out.below (HB1.out.trans (hbA.mono (by omega)))) hrb (by omega) (by simp) hn (by simp) c0 c1 (by simp)).mono ?_
  clear c0 c1 hrb
  rintro e w2 ⟨v, rfl, ho, hbB⟩
  obtain ⟨p1, q1, rfl, _, _, _⟩ := ho.slice
  have hb := hbA.trans (hbB.mono (by simp; omega))
  clear hbA
  have HO := Lib.hid (ho.mono (lo' := w1.heap.size) (by simp; omega) (Nat.le_refl _))
  clear ho hbB
  have s2 : w1.heap.size ≤ w2.heap.size := hb.size
  have n2_0 : w.heap.size < w2.heap.size := by omega
  have n2_1 : w.heap.size + 1 < w2.heap.size := by omega
  replace x0_0 := cell_below hb x0_0 (by omega)
  replace x0_1 := cell_below hb x0_1 (by omega)
  replace x1_0 := cell_below hb x1_0 (by omega)
  replace x1_1 := cell_below hb x1_1 (by omega)
  replace f1_0 := fro_below hb f1_0 (by omega)
  replace f1_1 := fro_below hb f1_1 (by omega)
  have HB2 := Lib.hid (HB1.out.trans (hb.mono (by omega)))
  clear hb
  generalize hz : ws ++ [b] = zs at *
  have HZ := Lib.hid hz
  clear hz
  go_wp2_with fail
  skip
  refine (impl_kept_yes p1 zs q1 0 _ HO.out.reads (by rw [← HZ.out]; simp; omega) (Lib.hid (by rw [← HZ.out]; exact lift_yes h.out hl))).mono ?_
  rintro e w3 ⟨rfl, hb⟩
  have s3 : w2.heap.size ≤ w3.heap.size := hb.size
  have n3_0 : w.heap.size < w3.heap.size := by omega
  have n3_1 : w.heap.size + 1 < w3.heap.size := by omega
  replace x0_0 := cell_below hb x0_0 (by omega)
  replace x0_1 := cell_below hb x0_1 (by omega)
  replace x1_0 := cell_below hb x1_0 (by omega)
  replace x1_1 := cell_below hb x1_1 (by omega)
  replace f1_0 := fro_below hb f1_0 (by omega)
  replace f1_1 := fro_below hb f1_1 (by omega)
  replace HO := Lib.hid (HO.out.below hb)
  have HB3 := Lib.hid (HB2.out.trans (hb.mono (by omega)))
  clear hb
  go_wp2_with fail
  refine bodyPost_ret (v := .tuple #[.agg #[.slice p1 zs.length q1, .int .i64 0], .bool true]) (by simp [results, Try.results50, go_sem, x1_0, x1_1]) rfl ⟨_, rfl, ?_, ?_⟩
  · simp only [size_set]; exact ((HO.out.set (by simp; omega) _).set (by simp; omega) _).mono (by omega) (by omega)
  · exact ((HB3.out.setCell (by simp) _).setCell (by simp) _)
end Go.Proofs.Ytlehlgnenaapaaa.liftplane
