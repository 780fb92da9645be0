/- The walks of DualVote: the model's and the program's. -/
import Derived.Test.YtcklehfcpengoaaVote
import Derived.Test.YtcklehfcpengoaaOwn1
import Derived.Test.YtcklehfcpengoaaVoteFns
import Derived.Test.YtcklehfcpengoaaShelf
import Derived.Deep.RegionHeld3
import Derived.Deep.DrawnRows
import Derived.Test.YtcklehfcpengoaaSetCell
namespace Go.Proofs.Ytcklehfcpengoaa.dualv
open Go.RowKit own pp nums pv
set_option linter.unusedVariables false
attribute [local go_sem ↓] Go.wp_at_zero Go.wp_at_succ
set_option linter.unusedSimpArgs false

theorem clone_own (a : Option Addr) (zs : List Int) (c : Nat) (w : World) (hr : ints.Reads .i64 w a zs) (hn : zs.length ≤ 1048576) (h0 : 0 < zs.length) :
    Calls Try.prog 58 #[.slice a zs.length c] w (intfns.Made zs w) := by
  obtain ⟨b, off, rfl, hb, hc⟩ := own1.reads_pos hr h0
  refine (Try.slices_Clone_int b off zs.length c zs w (Nat.le_refl _) (by omega) hc).mono ?_
  rintro e w' ⟨v, rfl, ho, _, hb⟩
  rw [List.take_length] at ho
  exact ⟨v, rfl, OwnI.of ho, hb⟩
set_option maxRecDepth 100000 in
set_option maxHeartbeats 1000000 in
theorem spec_sum (a : Option Addr) (ws : List Int) (c : Nat) (q : Int) (w : World) (hr : ints.Reads .i64 w a ws) (hn : ws.length ≤ 1048576) (h8 : ws.length ≤ 8) (hz : ∀ j, j < ws.length → 0 ≤ ws.getD j 0 ∧ ws.getD j 0 ≤ (20 : Nat)) :
    Calls Try.prog 82 #[.agg #[.slice a ws.length c, .int .i64 q]] w (fun e w' => e = .returned (.int .i64 (sumZ ws)) ∧ Below w.heap.size w w') := by
  have HZ := Lib.hid hz
  have HR := Lib.hid hr
  clear hz hr
  go_enter Try.func82, Try.ntmps82
  obtain ⟨w0, hw0⟩ : ∃ w0 : World, w0 = w.alloc (.cells #[.slice a ws.length c, .int .i64 q] 27) := ⟨_, rfl⟩
  have x0 : w0.cell? ⟨w.heap.size, 0, none⟩ = some (.slice a ws.length c) := by rw [hw0]; exact cell_new _ _ _ rfl rfl
  have x1 : w0.cell? ⟨w.heap.size, 1, none⟩ = some (.int .i64 q) := by rw [hw0]; exact cell_new _ _ _ rfl rfl
  have HB0 := Lib.hid (show Below w.heap.size w w0 by rw [hw0]; exact below_alloc w (.cells #[.slice a ws.length c, .int .i64 q] 27))
  have s0 : w.heap.size + 1 ≤ w0.heap.size := by rw [hw0]; simp
  go_wp2_with fail
  rw [← hw0]
  clear hw0
  go_loop [3, 4] (fun s i => ∃ k : Nat, k ≤ ws.length ∧ i = .int .i64 k ∧ s = .int .i64 (sumTo ws k)) (fun _ i => ws.length - (intOf i).toNat)
  case atStart => exact ⟨0, Nat.zero_le _, rfl, rfl⟩
  case round =>
    obtain ⟨k, hk, rfl, rfl⟩ := hrel
    have hbd := sumTo_bd (zs := ws) k (fun j hjk => HZ.out j (by omega))
    by_cases hlt : k < ws.length
    · obtain ⟨b, off, rfl, hb, hc⟩ := (HR.out.below HB0.out).at hlt
      have HSU := Lib.hid (sumTo_succ ws k)
      have hz := HZ.out k hlt
      generalize ws.getD k 0 = s at *
      generalize sumTo ws k = S at *
      go_wp2_with fail
      go_round
      case rel => exact ⟨k + 1, by omega, by go_num, by rw [HSU.out]⟩
      case measure => simp [intOf]; omega
    · obtain rfl : k = ws.length := by omega
      have HS := Lib.hid (show sumTo ws ws.length = sumZ ws from rfl)
      generalize sumTo ws ws.length = S at *
      go_wp2_with fail
      go_ret
      exact ⟨by rw [← HS.out]; rfl, HB0.out⟩
set_option maxRecDepth 100000 in
set_option maxHeartbeats 4000000 in
theorem spec_dual (a : Option Addr) (ws : List Int) (c : Nat) (q : Int) (w : World) (hr : ints.Reads .i64 w a ws) (hn : ws.length ≤ 1048576) (hk : voteB ws q = true) :
    Calls Try.prog 57 #[.agg #[.slice a ws.length c, .int .i64 q]] w (votefns.MadeP ws (sumZ ws + 1 - q) w) := by
  have h18 := ((vote_iff _ _).1 hk).1
  have hvq := (vote_iff _ _).1 hk
  have hsb := vote_sum hk
  have hzz : ∀ j, j < ws.length → 0 ≤ ws.getD j 0 ∧ ws.getD j 0 ≤ (20 : Nat) := fun j hj => by have := vote_at hk j hj; omega
  have HZ := Lib.hid hzz
  have hq1 := hvq.2.2
  clear hzz hvq
  have HSZ0 := Lib.hid (show sumZ ws = sumZ ws from rfl)
  have HSUM := Lib.hid (fun (wa : World) (h1 : ints.Reads .i64 wa a ws) => spec_sum a ws c q wa h1 hn h18.2 HZ.out)
  clear hk HSZ0
  have Hhr := Lib.hid hr
  clear hr
  go_enter Try.func57, Try.ntmps57
  go_wp2_with fail
  have x0_0 : (w.alloc (.cells #[.slice a ws.length c, .int .i64 q] 27)).cell? ⟨w.heap.size, 0, none⟩ = some (.slice a ws.length c) := cell_new _ _ _ (by simp) rfl
  have x0_1 : (w.alloc (.cells #[.slice a ws.length c, .int .i64 q] 27)).cell? ⟨w.heap.size, 1, none⟩ = some (.int .i64 q) := cell_new _ _ _ (by simp) rfl
  have HB0 := Lib.hid (below_alloc w (.cells #[.slice a ws.length c, .int .i64 q] 27))
  replace x0_0 := cell_old (.cells #[.slice none 0 0, .int .i64 0] 27) x0_0
  replace x0_1 := cell_old (.cells #[.slice none 0 0, .int .i64 0] 27) x0_1
  have x1_0 : ((w.alloc (.cells #[.slice a ws.length c, .int .i64 q] 27)).alloc (.cells #[.slice none 0 0, .int .i64 0] 27)).cell? ⟨w.heap.size + 1, 0, none⟩ = some (.slice none 0 0) := cell_new _ _ _ (by simp) rfl
  have x1_1 : ((w.alloc (.cells #[.slice a ws.length c, .int .i64 q] 27)).alloc (.cells #[.slice none 0 0, .int .i64 0] 27)).cell? ⟨w.heap.size + 1, 1, none⟩ = some (.int .i64 0) := cell_new _ _ _ (by simp) rfl
  have f1_0 : ((w.alloc (.cells #[.slice a ws.length c, .int .i64 q] 27)).alloc (.cells #[.slice none 0 0, .int .i64 0] 27)).frozen? ⟨w.heap.size + 1, 0, none⟩ = false := fro_new _ _ _ (by simp)
  have f1_1 : ((w.alloc (.cells #[.slice a ws.length c, .int .i64 q] 27)).alloc (.cells #[.slice none 0 0, .int .i64 0] 27)).frozen? ⟨w.heap.size + 1, 1, none⟩ = false := fro_new _ _ _ (by simp)
  replace HB0 := Lib.hid (HB0.out.alloc (by simp) (.cells #[.slice none 0 0, .int .i64 0] 27))
  have s0 : w.heap.size + 2 ≤ ((w.alloc (.cells #[.slice a ws.length c, .int .i64 q] 27)).alloc (.cells #[.slice none 0 0, .int .i64 0] 27)).heap.size := by simp
  generalize hw : ((w.alloc (.cells #[.slice a ws.length c, .int .i64 q] 27)).alloc (.cells #[.slice none 0 0, .int .i64 0] 27)) = w0 at *
  clear hw
  have n0_0 : w.heap.size < w0.heap.size := by omega
  have n0_1 : w.heap.size + 1 < w0.heap.size := by omega
  generalize sumZ ws = S at *
  have e1 : IntKind.i64.wrap (S + 1) = S + 1 := IntWalk.i64_in _ (by omega)
  have e2 : IntKind.i64.wrap (S + 1 - q) = S + 1 - q := IntWalk.i64_in _ (by omega)
  have HT0 := Lib.hid (show ∀ (wa : World), (wa.cell? ⟨w.heap.size, 0, none⟩ = some (.slice a ws.length c) ∧ wa.cell? ⟨w.heap.size, 1, none⟩ = some (.int .i64 q) ∧ w0.heap.size ≤ wa.heap.size ∧ Below w.heap.size w wa) → (wa.cell? ⟨w.heap.size + 1, 0, none⟩ = some (.slice none 0 0) ∧ wa.cell? ⟨w.heap.size + 1, 1, none⟩ = some (.int .i64 0) ∧ wa.frozen? ⟨w.heap.size + 1, 0, none⟩ = false ∧ wa.frozen? ⟨w.heap.size + 1, 1, none⟩ = false) → Calls Try.prog 65 #[.slice a ws.length c] wa (fun e w' => ∃ (p1 : Option Addr) (q1 : Nat), e = .returned (.slice p1 ws.length q1) ∧ OwnI w0.heap.size w'.heap.size w' (.slice p1 ws.length q1) ws ∧ (w'.cell? ⟨w.heap.size + 1, 0, none⟩ = some (.slice none 0 0) ∧ w'.cell? ⟨w.heap.size + 1, 1, none⟩ = some (.int .i64 0) ∧ w'.frozen? ⟨w.heap.size + 1, 0, none⟩ = false ∧ w'.frozen? ⟨w.heap.size + 1, 1, none⟩ = false) ∧ w'.cell? ⟨w.heap.size, 0, none⟩ = some (.slice a ws.length c) ∧ w'.cell? ⟨w.heap.size, 1, none⟩ = some (.int .i64 q) ∧ w0.heap.size ≤ w'.heap.size ∧ Below w.heap.size w w') from fun wa  hS hQ  => by
    have hwz := hS.2.2.1
    have hB := hS.2.2.2
    refine (own1.spec_own a ws c wa (Hhr.out.below hB) hn (by omega)).mono ?_
    rintro e w' ⟨v, rfl, ho, hb⟩
    obtain ⟨p1, q1, rfl, _, _, _⟩ := ho.slice
    exact ⟨p1, q1, rfl, ho.mono hwz (Nat.le_refl _), ⟨cell_below hb hQ.1 (by omega), cell_below hb hQ.2.1 (by omega), fro_below hb hQ.2.2.1 (by omega), fro_below hb hQ.2.2.2 (by omega)⟩, cell_below hb hS.1 (by omega), cell_below hb hS.2.1 (by omega), Nat.le_trans hwz hb.size, hB.trans (hb.mono hB.size)⟩)
  have HT1 := Lib.hid (show ∀ (wa : World) (p1 : Option Addr) (q1 : Nat), (wa.cell? ⟨w.heap.size, 0, none⟩ = some (.slice a ws.length c) ∧ wa.cell? ⟨w.heap.size, 1, none⟩ = some (.int .i64 q) ∧ w0.heap.size ≤ wa.heap.size ∧ Below w.heap.size w wa) → (wa.cell? ⟨w.heap.size + 1, 0, none⟩ = some (.slice none 0 0) ∧ wa.cell? ⟨w.heap.size + 1, 1, none⟩ = some (.int .i64 0) ∧ wa.frozen? ⟨w.heap.size + 1, 0, none⟩ = false ∧ wa.frozen? ⟨w.heap.size + 1, 1, none⟩ = false) → OwnI w0.heap.size wa.heap.size wa (.slice p1 ws.length q1) ws → Calls Try.prog 82 #[.agg #[.slice a ws.length c, .int .i64 q]] wa (fun e w' => e = .returned (.int .i64 S) ∧ OwnI w0.heap.size w'.heap.size w' (.slice p1 ws.length q1) ws ∧ (w'.cell? ⟨w.heap.size + 1, 0, none⟩ = some (.slice none 0 0) ∧ w'.cell? ⟨w.heap.size + 1, 1, none⟩ = some (.int .i64 0) ∧ w'.frozen? ⟨w.heap.size + 1, 0, none⟩ = false ∧ w'.frozen? ⟨w.heap.size + 1, 1, none⟩ = false) ∧ w'.cell? ⟨w.heap.size, 0, none⟩ = some (.slice a ws.length c) ∧ w'.cell? ⟨w.heap.size, 1, none⟩ = some (.int .i64 q) ∧ w0.heap.size ≤ w'.heap.size ∧ Below w.heap.size w w') from fun wa p1 q1 hS hQ k0 => by
    have hwz := hS.2.2.1
    have hB := hS.2.2.2
    refine (HSUM.out wa (Hhr.out.below hB)).mono ?_
    rintro e w' ⟨rfl, hb⟩
    exact ⟨rfl, (k0.below hb).mono (Nat.le_refl _) hb.size, ⟨cell_below hb hQ.1 (by omega), cell_below hb hQ.2.1 (by omega), fro_below hb hQ.2.2.1 (by omega), fro_below hb hQ.2.2.2 (by omega)⟩, cell_below hb hS.1 (by omega), cell_below hb hS.2.1 (by omega), Nat.le_trans hwz hb.size, hB.trans (hb.mono hB.size)⟩)
  go_region_held3 (fun w' => w'.cell? ⟨w.heap.size, 0, none⟩ = some (.slice a ws.length c) ∧ w'.cell? ⟨w.heap.size, 1, none⟩ = some (.int .i64 q) ∧ w0.heap.size ≤ w'.heap.size ∧ Below w.heap.size w w') (first | assumption | exact ⟨x0_0, x0_1, Nat.le_refl _, HB0.out⟩ | exact ⟨x0_0, x0_1, Nat.le_refl _, HB0.out.drew⟩ | exact ⟨cell_set (cell_set hbx.1 (by first | (simp; done) | (simp; omega) | omega) _) (by first | (simp; done) | (simp; omega) | omega) _, cell_set (cell_set hbx.2.1 (by first | (simp; done) | (simp; omega) | omega) _) (by first | (simp; done) | (simp; omega) | omega) _, by rw [size_set, size_set]; exact hbx.2.2.1, (hbx.2.2.2.setCell (by simp) _).setCell (by simp) _⟩) (first | (go_at_call 65; refine Calls.mono (HT0.out _ (by assumption) (by exact ⟨x1_0, x1_1, f1_0, f1_1⟩)) ?_; rintro e v0 ⟨p1, q1, rfl, ho0_0, hq0, hbx⟩) | (go_at_call 82; refine Calls.mono (HT1.out _ _ _ (by assumption) hq0 ho0_0) ?_; rintro e v1 ⟨rfl, ho0_1, hq1, hbx⟩))
  have HO0 := Lib.hid ho0_1
  obtain ⟨g0, g1, g2, g3⟩ := hq1
  have HSZ := Lib.hid hbx.2.2.1
  have HBE := Lib.hid hbx.2.2.2
  go_wp2_with fail
  refine bodyPost_ret (v := .agg #[.slice p1 ws.length q1, .int .i64 (S + 1 - q)]) (by simp [results, Try.results57, go_sem, g0, g1]) rfl ⟨_, rfl, ?_, ?_⟩
  · simp only [size_set]; exact ((HO0.out.set (by simp; omega) _).set (by simp; omega) _).mono (by omega) (Nat.le_refl _)
  · exact (HBE.out.setCell (by simp) _).setCell (by simp) _
set_option maxRecDepth 100000 in
set_option maxHeartbeats 4000000 in
theorem spec_no (a : Option Addr) (ws : List Int) (c : Nat) (q : Int) (w : World) (hr : ints.Reads .i64 w a ws) (hn : ws.length ≤ 1048576) (hk : voteB ws q = false) :
    Calls Try.prog 26 #[.agg #[.slice a ws.length c, .int .i64 q]] w (RetPB [] 0 false w) := by
  have Hhr := Lib.hid hr
  clear hr
  go_enter Try.func26, Try.ntmps26
  go_wp2_with fail
  have x0_0 : (w.alloc (.cells #[.slice a ws.length c, .int .i64 q] 27)).cell? ⟨w.heap.size, 0, none⟩ = some (.slice a ws.length c) := cell_new _ _ _ (by simp) rfl
  have x0_1 : (w.alloc (.cells #[.slice a ws.length c, .int .i64 q] 27)).cell? ⟨w.heap.size, 1, none⟩ = some (.int .i64 q) := cell_new _ _ _ (by simp) rfl
  have HB0 := Lib.hid (below_alloc w (.cells #[.slice a ws.length c, .int .i64 q] 27))
  replace x0_0 := cell_old (.cells #[.slice none 0 0, .int .i64 0] 27) x0_0
  replace x0_1 := cell_old (.cells #[.slice none 0 0, .int .i64 0] 27) x0_1
  have x1_0 : ((w.alloc (.cells #[.slice a ws.length c, .int .i64 q] 27)).alloc (.cells #[.slice none 0 0, .int .i64 0] 27)).cell? ⟨w.heap.size + 1, 0, none⟩ = some (.slice none 0 0) := cell_new _ _ _ (by simp) rfl
  have x1_1 : ((w.alloc (.cells #[.slice a ws.length c, .int .i64 q] 27)).alloc (.cells #[.slice none 0 0, .int .i64 0] 27)).cell? ⟨w.heap.size + 1, 1, none⟩ = some (.int .i64 0) := cell_new _ _ _ (by simp) rfl
  have f1_0 : ((w.alloc (.cells #[.slice a ws.length c, .int .i64 q] 27)).alloc (.cells #[.slice none 0 0, .int .i64 0] 27)).frozen? ⟨w.heap.size + 1, 0, none⟩ = false := fro_new _ _ _ (by simp)
  have f1_1 : ((w.alloc (.cells #[.slice a ws.length c, .int .i64 q] 27)).alloc (.cells #[.slice none 0 0, .int .i64 0] 27)).frozen? ⟨w.heap.size + 1, 1, none⟩ = false := fro_new _ _ _ (by simp)
  replace HB0 := Lib.hid (HB0.out.alloc (by simp) (.cells #[.slice none 0 0, .int .i64 0] 27))
  have s0 : w.heap.size + 2 ≤ ((w.alloc (.cells #[.slice a ws.length c, .int .i64 q] 27)).alloc (.cells #[.slice none 0 0, .int .i64 0] 27)).heap.size := by simp
  generalize hw : ((w.alloc (.cells #[.slice a ws.length c, .int .i64 q] 27)).alloc (.cells #[.slice none 0 0, .int .i64 0] 27)) = w0 at *
  clear hw
  have n0_0 : w.heap.size < w0.heap.size := by omega
  have n0_1 : w.heap.size + 1 < w0.heap.size := by omega
  refine (vote.spec_vote a ws c q _ (Hhr.out.below HB0.out) hn false (Lib.hid hk)).mono ?_
  rintro e w1 ⟨rfl, hb⟩
  have s1 : w0.heap.size ≤ w1.heap.size := hb.size
  have n1_0 : w.heap.size < w1.heap.size := by omega
  have n1_1 : w.heap.size + 1 < w1.heap.size := by omega
  replace x0_0 := cell_below hb x0_0 (by omega)
  replace x0_1 := cell_below hb x0_1 (by omega)
  replace x1_0 := cell_below hb x1_0 (by omega)
  replace x1_1 := cell_below hb x1_1 (by omega)
  replace f1_0 := fro_below hb f1_0 (by omega)
  replace f1_1 := fro_below hb f1_1 (by omega)
  have HB1 := Lib.hid (HB0.out.trans (hb.mono (by omega)))
  clear hb
  go_wp2_with fail
  refine bodyPost_ret (v := .tuple #[.agg #[.slice none 0 0, .int .i64 0], .bool false]) (by simp [results, Try.results26, go_sem, x1_0, x1_1]) rfl ⟨_, rfl, OwnI.nil _ _ _, ?_⟩
  exact ((HB1.out.setCell (by simp) _).setCell (by simp) _)
set_option maxRecDepth 100000 in
set_option maxHeartbeats 4000000 in
theorem spec_yes (a : Option Addr) (ws : List Int) (c : Nat) (q : Int) (w : World) (hr : ints.Reads .i64 w a ws) (hn : ws.length ≤ 1048576) (hk : voteB ws q = true) :
    Calls Try.prog 26 #[.agg #[.slice a ws.length c, .int .i64 q]] w (RetPB ws (sumZ ws + 1 - q) true w) := by
  have Hhr := Lib.hid hr
  clear hr
  go_enter Try.func26, Try.ntmps26
  go_wp2_with fail
  have x0_0 : (w.alloc (.cells #[.slice a ws.length c, .int .i64 q] 27)).cell? ⟨w.heap.size, 0, none⟩ = some (.slice a ws.length c) := cell_new _ _ _ (by simp) rfl
  have x0_1 : (w.alloc (.cells #[.slice a ws.length c, .int .i64 q] 27)).cell? ⟨w.heap.size, 1, none⟩ = some (.int .i64 q) := cell_new _ _ _ (by simp) rfl
  have HB0 := Lib.hid (below_alloc w (.cells #[.slice a ws.length c, .int .i64 q] 27))
  replace x0_0 := cell_old (.cells #[.slice none 0 0, .int .i64 0] 27) x0_0
  replace x0_1 := cell_old (.cells #[.slice none 0 0, .int .i64 0] 27) x0_1
  have x1_0 : ((w.alloc (.cells #[.slice a ws.length c, .int .i64 q] 27)).alloc (.cells #[.slice none 0 0, .int .i64 0] 27)).cell? ⟨w.heap.size + 1, 0, none⟩ = some (.slice none 0 0) := cell_new _ _ _ (by simp) rfl
  have x1_1 : ((w.alloc (.cells #[.slice a ws.length c, .int .i64 q] 27)).alloc (.cells #[.slice none 0 0, .int .i64 0] 27)).cell? ⟨w.heap.size + 1, 1, none⟩ = some (.int .i64 0) := cell_new _ _ _ (by simp) rfl
  have f1_0 : ((w.alloc (.cells #[.slice a ws.length c, .int .i64 q] 27)).alloc (.cells #[.slice none 0 0, .int .i64 0] 27)).frozen? ⟨w.heap.size + 1, 0, none⟩ = false := fro_new _ _ _ (by simp)
  have f1_1 : ((w.alloc (.cells #[.slice a ws.length c, .int .i64 q] 27)).alloc (.cells #[.slice none 0 0, .int .i64 0] 27)).frozen? ⟨w.heap.size + 1, 1, none⟩ = false := fro_new _ _ _ (by simp)
  replace HB0 := Lib.hid (HB0.out.alloc (by simp) (.cells #[.slice none 0 0, .int .i64 0] 27))
  have s0 : w.heap.size + 2 ≤ ((w.alloc (.cells #[.slice a ws.length c, .int .i64 q] 27)).alloc (.cells #[.slice none 0 0, .int .i64 0] 27)).heap.size := by simp
  generalize hw : ((w.alloc (.cells #[.slice a ws.length c, .int .i64 q] 27)).alloc (.cells #[.slice none 0 0, .int .i64 0] 27)) = w0 at *
  clear hw
  have n0_0 : w.heap.size < w0.heap.size := by omega
  have n0_1 : w.heap.size + 1 < w0.heap.size := by omega
  refine (vote.spec_vote a ws c q _ (Hhr.out.below HB0.out) hn true (Lib.hid hk)).mono ?_
  rintro e w1 ⟨rfl, hb⟩
  have s1 : w0.heap.size ≤ w1.heap.size := hb.size
  have n1_0 : w.heap.size < w1.heap.size := by omega
  have n1_1 : w.heap.size + 1 < w1.heap.size := by omega
  replace x0_0 := cell_below hb x0_0 (by omega)
  replace x0_1 := cell_below hb x0_1 (by omega)
  replace x1_0 := cell_below hb x1_0 (by omega)
  replace x1_1 := cell_below hb x1_1 (by omega)
  replace f1_0 := fro_below hb f1_0 (by omega)
  replace f1_1 := fro_below hb f1_1 (by omega)
  have HB1 := Lib.hid (HB0.out.trans (hb.mono (by omega)))
  clear hb
  go_wp2_with fail
  refine (spec_dual a ws c q _ (Hhr.out.below HB1.out) hn hk).mono ?_
  rintro e w2 ⟨v, rfl, ho, hb⟩
  obtain ⟨p1, q1, rfl, _, _, _⟩ := ho.slice
  have HO := Lib.hid ho
  clear ho
  have s2 : w1.heap.size ≤ w2.heap.size := hb.size
  have n2_0 : w.heap.size < w2.heap.size := by omega
  have n2_1 : w.heap.size + 1 < w2.heap.size := by omega
  replace x0_0 := cell_below hb x0_0 (by omega)
  replace x0_1 := cell_below hb x0_1 (by omega)
  replace x1_0 := cell_below hb x1_0 (by omega)
  replace x1_1 := cell_below hb x1_1 (by omega)
  replace f1_0 := fro_below hb f1_0 (by omega)
  replace f1_1 := fro_below hb f1_1 (by omega)
  have HB2 := Lib.hid (HB1.out.trans (hb.mono (by omega)))
  clear hb
  go_wp2_with fail
  refine bodyPost_ret (v := .tuple #[.agg #[.slice p1 ws.length q1, .int .i64 (sumZ ws + 1 - q)], .bool true]) (by simp [results, Try.results26, go_sem, x1_0, x1_1, f1_0, f1_1]) rfl ⟨_, rfl, ?_, ?_⟩
  · simp only [size_set]; exact ((HO.out.set (by simp; omega) _).set (by simp; omega) _).mono (by omega) (Nat.le_refl _)
  · exact ((HB2.out.setCell (by simp) _).setCell (by simp) _)
set_option maxRecDepth 100000 in
set_option maxHeartbeats 4000000 in
theorem impl_no (a : Option Addr) (ws : List Int) (c : Nat) (q : Int) (w : World) (hr : ints.Reads .i64 w a ws) (hn : ws.length ≤ 1048576) (hk : voteB ws q = false) :
    Calls Try.prog 27 #[.agg #[.slice a ws.length c, .int .i64 q]] w (RetPB [] 0 false w) := by
  have Hhr := Lib.hid hr
  clear hr
  go_enter Try.func27, Try.ntmps27
  go_wp2_with fail
  have x0_0 : (w.alloc (.cells #[.slice a ws.length c, .int .i64 q] 27)).cell? ⟨w.heap.size, 0, none⟩ = some (.slice a ws.length c) := cell_new _ _ _ (by simp) rfl
  have x0_1 : (w.alloc (.cells #[.slice a ws.length c, .int .i64 q] 27)).cell? ⟨w.heap.size, 1, none⟩ = some (.int .i64 q) := cell_new _ _ _ (by simp) rfl
  have HB0 := Lib.hid (below_alloc w (.cells #[.slice a ws.length c, .int .i64 q] 27))
  replace x0_0 := cell_old (.cells #[.slice none 0 0, .int .i64 0] 27) x0_0
  replace x0_1 := cell_old (.cells #[.slice none 0 0, .int .i64 0] 27) x0_1
  have x1_0 : ((w.alloc (.cells #[.slice a ws.length c, .int .i64 q] 27)).alloc (.cells #[.slice none 0 0, .int .i64 0] 27)).cell? ⟨w.heap.size + 1, 0, none⟩ = some (.slice none 0 0) := cell_new _ _ _ (by simp) rfl
  have x1_1 : ((w.alloc (.cells #[.slice a ws.length c, .int .i64 q] 27)).alloc (.cells #[.slice none 0 0, .int .i64 0] 27)).cell? ⟨w.heap.size + 1, 1, none⟩ = some (.int .i64 0) := cell_new _ _ _ (by simp) rfl
  have f1_0 : ((w.alloc (.cells #[.slice a ws.length c, .int .i64 q] 27)).alloc (.cells #[.slice none 0 0, .int .i64 0] 27)).frozen? ⟨w.heap.size + 1, 0, none⟩ = false := fro_new _ _ _ (by simp)
  have f1_1 : ((w.alloc (.cells #[.slice a ws.length c, .int .i64 q] 27)).alloc (.cells #[.slice none 0 0, .int .i64 0] 27)).frozen? ⟨w.heap.size + 1, 1, none⟩ = false := fro_new _ _ _ (by simp)
  replace HB0 := Lib.hid (HB0.out.alloc (by simp) (.cells #[.slice none 0 0, .int .i64 0] 27))
  have s0 : w.heap.size + 2 ≤ ((w.alloc (.cells #[.slice a ws.length c, .int .i64 q] 27)).alloc (.cells #[.slice none 0 0, .int .i64 0] 27)).heap.size := by simp
  generalize hw : ((w.alloc (.cells #[.slice a ws.length c, .int .i64 q] 27)).alloc (.cells #[.slice none 0 0, .int .i64 0] 27)) = w0 at *
  clear hw
  have n0_0 : w.heap.size < w0.heap.size := by omega
  have n0_1 : w.heap.size + 1 < w0.heap.size := by omega
  refine (vote.impl_vote a ws c q _ (Hhr.out.below HB0.out) hn false (Lib.hid hk)).mono ?_
  rintro e w1 ⟨rfl, hb⟩
  have s1 : w0.heap.size ≤ w1.heap.size := hb.size
  have n1_0 : w.heap.size < w1.heap.size := by omega
  have n1_1 : w.heap.size + 1 < w1.heap.size := by omega
  replace x0_0 := cell_below hb x0_0 (by omega)
  replace x0_1 := cell_below hb x0_1 (by omega)
  replace x1_0 := cell_below hb x1_0 (by omega)
  replace x1_1 := cell_below hb x1_1 (by omega)
  replace f1_0 := fro_below hb f1_0 (by omega)
  replace f1_1 := fro_below hb f1_1 (by omega)
  have HB1 := Lib.hid (HB0.out.trans (hb.mono (by omega)))
  clear hb
  go_wp2_with fail
  refine bodyPost_ret (v := .tuple #[.agg #[.slice none 0 0, .int .i64 0], .bool false]) (by simp [results, Try.results27, go_sem, x1_0, x1_1]) rfl ⟨_, rfl, OwnI.nil _ _ _, ?_⟩
  exact ((HB1.out.setCell (by simp) _).setCell (by simp) _)
set_option maxRecDepth 100000 in
set_option maxHeartbeats 4000000 in
theorem impl_yes (a : Option Addr) (ws : List Int) (c : Nat) (q : Int) (w : World) (hr : ints.Reads .i64 w a ws) (hn : ws.length ≤ 1048576) (hk : voteB ws q = true) :
    Calls Try.prog 27 #[.agg #[.slice a ws.length c, .int .i64 q]] w (RetPB ws (sumZ ws + 1 - q) true w) := by
  have h18 := ((vote_iff _ _).1 hk).1
  have hvq := (vote_iff _ _).1 hk
  have hsb := vote_sum hk
  have hzz : ∀ j, j < ws.length → 0 ≤ ws.getD j 0 ∧ ws.getD j 0 ≤ (20 : Nat) := fun j hj => by have := vote_at hk j hj; omega
  have HZ := Lib.hid hzz
  have hq1 := hvq.2.2
  clear hzz hvq
  have HSZ0 := Lib.hid (show sumZ ws = sumZ ws from rfl)
  have HSUM := Lib.hid (fun (wa : World) (h1 : ints.Reads .i64 wa a ws) => vote.sum_any a ws c wa h1 hn (fun j hj => by have := HZ.out j hj; omega))
  have HVT := Lib.hid (fun (wa : World) (h1 : ints.Reads .i64 wa a ws) => vote.impl_vote a ws c q wa h1 hn true (Lib.hid hk))
  clear hk HSZ0
  have Hhr := Lib.hid hr
  clear hr
  go_enter Try.func27, Try.ntmps27
  go_wp2_with fail
  have x0_0 : (w.alloc (.cells #[.slice a ws.length c, .int .i64 q] 27)).cell? ⟨w.heap.size, 0, none⟩ = some (.slice a ws.length c) := cell_new _ _ _ (by simp) rfl
  have x0_1 : (w.alloc (.cells #[.slice a ws.length c, .int .i64 q] 27)).cell? ⟨w.heap.size, 1, none⟩ = some (.int .i64 q) := cell_new _ _ _ (by simp) rfl
  have HB0 := Lib.hid (below_alloc w (.cells #[.slice a ws.length c, .int .i64 q] 27))
  replace x0_0 := cell_old (.cells #[.slice none 0 0, .int .i64 0] 27) x0_0
  replace x0_1 := cell_old (.cells #[.slice none 0 0, .int .i64 0] 27) x0_1
  have x1_0 : ((w.alloc (.cells #[.slice a ws.length c, .int .i64 q] 27)).alloc (.cells #[.slice none 0 0, .int .i64 0] 27)).cell? ⟨w.heap.size + 1, 0, none⟩ = some (.slice none 0 0) := cell_new _ _ _ (by simp) rfl
  have x1_1 : ((w.alloc (.cells #[.slice a ws.length c, .int .i64 q] 27)).alloc (.cells #[.slice none 0 0, .int .i64 0] 27)).cell? ⟨w.heap.size + 1, 1, none⟩ = some (.int .i64 0) := cell_new _ _ _ (by simp) rfl
  have f1_0 : ((w.alloc (.cells #[.slice a ws.length c, .int .i64 q] 27)).alloc (.cells #[.slice none 0 0, .int .i64 0] 27)).frozen? ⟨w.heap.size + 1, 0, none⟩ = false := fro_new _ _ _ (by simp)
  have f1_1 : ((w.alloc (.cells #[.slice a ws.length c, .int .i64 q] 27)).alloc (.cells #[.slice none 0 0, .int .i64 0] 27)).frozen? ⟨w.heap.size + 1, 1, none⟩ = false := fro_new _ _ _ (by simp)
  replace HB0 := Lib.hid (HB0.out.alloc (by simp) (.cells #[.slice none 0 0, .int .i64 0] 27))
  have s0 : w.heap.size + 2 ≤ ((w.alloc (.cells #[.slice a ws.length c, .int .i64 q] 27)).alloc (.cells #[.slice none 0 0, .int .i64 0] 27)).heap.size := by simp
  generalize hw : ((w.alloc (.cells #[.slice a ws.length c, .int .i64 q] 27)).alloc (.cells #[.slice none 0 0, .int .i64 0] 27)) = w0 at *
  clear hw
  have n0_0 : w.heap.size < w0.heap.size := by omega
  have n0_1 : w.heap.size + 1 < w0.heap.size := by omega
  refine (HVT.out _ (Hhr.out.below HB0.out)).mono ?_
  rintro e w1 ⟨rfl, hb⟩
  have s1 : w0.heap.size ≤ w1.heap.size := hb.size
  have n1_0 : w.heap.size < w1.heap.size := by omega
  have n1_1 : w.heap.size + 1 < w1.heap.size := by omega
  replace x0_0 := cell_below hb x0_0 (by omega)
  replace x0_1 := cell_below hb x0_1 (by omega)
  replace x1_0 := cell_below hb x1_0 (by omega)
  replace x1_1 := cell_below hb x1_1 (by omega)
  replace f1_0 := fro_below hb f1_0 (by omega)
  replace f1_1 := fro_below hb f1_1 (by omega)
  have HB1 := Lib.hid (HB0.out.trans (hb.mono (by omega)))
  clear hb
  go_wp2_with fail
  generalize sumZ ws = S at *
  have e1 : IntKind.i64.wrap (S + 1) = S + 1 := IntWalk.i64_in _ (by omega)
  have e2 : IntKind.i64.wrap (S + 1 - q) = S + 1 - q := IntWalk.i64_in _ (by omega)
  have HT0 := Lib.hid (show ∀ (wa : World), (wa.cell? ⟨w.heap.size, 0, none⟩ = some (.slice a ws.length c) ∧ wa.cell? ⟨w.heap.size, 1, none⟩ = some (.int .i64 q) ∧ w1.heap.size ≤ wa.heap.size ∧ Below w.heap.size w wa) → (wa.cell? ⟨w.heap.size + 1, 0, none⟩ = some (.slice none 0 0) ∧ wa.cell? ⟨w.heap.size + 1, 1, none⟩ = some (.int .i64 0) ∧ wa.frozen? ⟨w.heap.size + 1, 0, none⟩ = false ∧ wa.frozen? ⟨w.heap.size + 1, 1, none⟩ = false) → Calls Try.prog 58 #[.slice a ws.length c] wa (fun e w' => ∃ (p1 : Option Addr) (q1 : Nat), e = .returned (.slice p1 ws.length q1) ∧ OwnI w1.heap.size w'.heap.size w' (.slice p1 ws.length q1) ws ∧ (w'.cell? ⟨w.heap.size + 1, 0, none⟩ = some (.slice none 0 0) ∧ w'.cell? ⟨w.heap.size + 1, 1, none⟩ = some (.int .i64 0) ∧ w'.frozen? ⟨w.heap.size + 1, 0, none⟩ = false ∧ w'.frozen? ⟨w.heap.size + 1, 1, none⟩ = false) ∧ w'.cell? ⟨w.heap.size, 0, none⟩ = some (.slice a ws.length c) ∧ w'.cell? ⟨w.heap.size, 1, none⟩ = some (.int .i64 q) ∧ w1.heap.size ≤ w'.heap.size ∧ Below w.heap.size w w') from fun wa  hS hQ  => by
    have hwz := hS.2.2.1
    have hB := hS.2.2.2
    refine (clone_own a ws c wa (Hhr.out.below hB) hn (by omega)).mono ?_
    rintro e w' ⟨v, rfl, ho, hb⟩
    obtain ⟨p1, q1, rfl, _, _, _⟩ := ho.slice
    exact ⟨p1, q1, rfl, ho.mono hwz (Nat.le_refl _), ⟨cell_below hb hQ.1 (by omega), cell_below hb hQ.2.1 (by omega), fro_below hb hQ.2.2.1 (by omega), fro_below hb hQ.2.2.2 (by omega)⟩, cell_below hb hS.1 (by omega), cell_below hb hS.2.1 (by omega), Nat.le_trans hwz hb.size, hB.trans (hb.mono hB.size)⟩)
  have HT1 := Lib.hid (show ∀ (wa : World) (p1 : Option Addr) (q1 : Nat), (wa.cell? ⟨w.heap.size, 0, none⟩ = some (.slice a ws.length c) ∧ wa.cell? ⟨w.heap.size, 1, none⟩ = some (.int .i64 q) ∧ w1.heap.size ≤ wa.heap.size ∧ Below w.heap.size w wa) → (wa.cell? ⟨w.heap.size + 1, 0, none⟩ = some (.slice none 0 0) ∧ wa.cell? ⟨w.heap.size + 1, 1, none⟩ = some (.int .i64 0) ∧ wa.frozen? ⟨w.heap.size + 1, 0, none⟩ = false ∧ wa.frozen? ⟨w.heap.size + 1, 1, none⟩ = false) → OwnI w1.heap.size wa.heap.size wa (.slice p1 ws.length q1) ws → Calls Try.prog 51 #[.slice a ws.length c] wa (fun e w' => e = .returned (.int .i64 S) ∧ OwnI w1.heap.size w'.heap.size w' (.slice p1 ws.length q1) ws ∧ (w'.cell? ⟨w.heap.size + 1, 0, none⟩ = some (.slice none 0 0) ∧ w'.cell? ⟨w.heap.size + 1, 1, none⟩ = some (.int .i64 0) ∧ w'.frozen? ⟨w.heap.size + 1, 0, none⟩ = false ∧ w'.frozen? ⟨w.heap.size + 1, 1, none⟩ = false) ∧ w'.cell? ⟨w.heap.size, 0, none⟩ = some (.slice a ws.length c) ∧ w'.cell? ⟨w.heap.size, 1, none⟩ = some (.int .i64 q) ∧ w1.heap.size ≤ w'.heap.size ∧ Below w.heap.size w w') from fun wa p1 q1 hS hQ k0 => by
    have hwz := hS.2.2.1
    have hB := hS.2.2.2
    refine (HSUM.out wa (Hhr.out.below hB)).mono ?_
    rintro e w' ⟨rfl, rfl⟩
    have hb := Below.refl wa.heap.size wa
    exact ⟨rfl, (k0.below hb).mono (Nat.le_refl _) hb.size, ⟨cell_below hb hQ.1 (by omega), cell_below hb hQ.2.1 (by omega), fro_below hb hQ.2.2.1 (by omega), fro_below hb hQ.2.2.2 (by omega)⟩, cell_below hb hS.1 (by omega), cell_below hb hS.2.1 (by omega), Nat.le_trans hwz hb.size, hB.trans (hb.mono hB.size)⟩)
  go_region_held3 (fun w' => w'.cell? ⟨w.heap.size, 0, none⟩ = some (.slice a ws.length c) ∧ w'.cell? ⟨w.heap.size, 1, none⟩ = some (.int .i64 q) ∧ w1.heap.size ≤ w'.heap.size ∧ Below w.heap.size w w') (first | assumption | exact ⟨x0_0, x0_1, Nat.le_refl _, HB1.out⟩ | exact ⟨x0_0, x0_1, Nat.le_refl _, HB1.out.drew⟩ | exact ⟨cell_set (cell_set hbx.1 (by first | (simp; done) | (simp; omega) | omega) _) (by first | (simp; done) | (simp; omega) | omega) _, cell_set (cell_set hbx.2.1 (by first | (simp; done) | (simp; omega) | omega) _) (by first | (simp; done) | (simp; omega) | omega) _, by rw [size_set, size_set]; exact hbx.2.2.1, (hbx.2.2.2.setCell (by simp) _).setCell (by simp) _⟩) (first | (go_at_call 58; refine Calls.mono (HT0.out _ (by assumption) (by exact ⟨x1_0, x1_1, f1_0, f1_1⟩)) ?_; rintro e v0 ⟨p1, q1, rfl, ho0_0, hq0, hbx⟩) | (go_at_call 51; refine Calls.mono (HT1.out _ _ _ (by assumption) hq0 ho0_0) ?_; rintro e v1 ⟨rfl, ho0_1, hq1, hbx⟩))
  have HO0 := Lib.hid ho0_1
  obtain ⟨g0, g1, g2, g3⟩ := hq1
  have HSZ := Lib.hid hbx.2.2.1
  have HBE := Lib.hid hbx.2.2.2
  go_wp2_with fail
  refine bodyPost_ret (v := .tuple #[.agg #[.slice p1 ws.length q1, .int .i64 (S + 1 - q)], .bool true]) (by simp [results, Try.results27, go_sem, g0, g1]) rfl ⟨_, rfl, ?_, ?_⟩
  · simp only [size_set]; exact ((HO0.out.set (by simp; omega) _).set (by simp; omega) _).mono (by omega) (Nat.le_refl _)
  · exact (HBE.out.setCell (by simp) _).setCell (by simp) _
end Go.Proofs.Ytcklehfcpengoaa.dualv
