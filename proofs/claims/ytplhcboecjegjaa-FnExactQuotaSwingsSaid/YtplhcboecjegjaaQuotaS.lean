/- The walk of QuotaSwings: the model's. -/
import Derived.Test.YtplhcboecjegjaaQuotaP
import Derived.Test.YtplhcboecjegjaaVoter
import Derived.Test.YtplhcboecjegjaaDualV
import Derived.Test.YtplhcboecjegjaaSwing
import Derived.Test.YtplhcboecjegjaaBothI
namespace Go.Proofs.Ytplhcboecjegjaa.quotas
open Go.RowKit own pp nums pv voter dualv quotap psw wins splitp bothi
set_option linter.unusedVariables false
attribute [local go_sem ↓] Go.wp_at_zero Go.wp_at_succ
set_option linter.unusedSimpArgs false

set_option maxRecDepth 100000 in
set_option maxHeartbeats 4000000 in
theorem spec_no (a : Option Addr) (ws : List Int) (c : Nat) (q : Int) (w : World) (hr : ints.Reads .i64 w a ws) (hn : ws.length ≤ 1048576) (i : Int) (h : Hid (voterB ws q i = false)) :
    Calls Try.prog 28 #[.agg #[.slice a ws.length c, .int .i64 q], .int .i64 i] w (RetIB [] false w) := by
  have Hhr := Lib.hid hr
  clear hr
  go_enter Try.func28, Try.ntmps28
  obtain ⟨w0, hw0⟩ : ∃ w0 : World, w0 = w.alloc (.cells #[.slice a ws.length c, .int .i64 q] 29) := ⟨_, rfl⟩
  have x0_0 : w0.cell? ⟨w.heap.size, 0, none⟩ = some (.slice a ws.length c) := by rw [hw0]; exact cell_new _ _ _ rfl rfl
  have x0_1 : w0.cell? ⟨w.heap.size, 1, none⟩ = some (.int .i64 q) := by rw [hw0]; exact cell_new _ _ _ rfl rfl
  have HB0 := Lib.hid (show Below w.heap.size w w0 by rw [hw0]; exact below_alloc w (.cells #[.slice a ws.length c, .int .i64 q] 29))
  have sE := Lib.hid (show w0.heap.size = w.heap.size + 1 by rw [hw0]; simp)
  go_wp2_with fail
  rw [← hw0]
  clear hw0
  obtain ⟨w1, hw1⟩ : ∃ w1 : World, w1 = w0.alloc (.cells #[] 3) := ⟨_, rfl⟩
  have hown1 : w1.ownsRow (w.heap.size + 1) 3 1 (.slice (some ⟨w.heap.size + 1, 0, none⟩) 0 0) 0 [] := by rw [hw1, ← sE.out]; exact World.ownsRow_made (base := w0.heap.size) (e := 3) (size := 1) w0 #[] 0 (Nat.le_refl _) (by unfold maxLen; omega) rfl
  have hb01 : Below (w.heap.size + 1) w0 w1 := by rw [hw1, ← sE.out]; exact below_alloc w0 (.cells #[] 3)
  rw [← hw1]
  clear hw1
  refine (spec_voter a ws c q _ (Hhr.out.below (HB0.out.trans (hb01.mono (by omega)))) hn i false h).mono ?_
  rintro e w2 ⟨rfl, hb⟩
  have hown2 := ownsRow_block hown1 (fun g e => hb.block g (hown1.lt g e).2)
  have hs0 : w.heap.size + 1 ≤ w0.heap.size := by rw [sE.out]; exact Nat.le_refl _
  have hb02 : Below (w.heap.size + 1) w0 w2 := hb01.trans (hb.mono (by have := hb01.size; omega))
  have HB2 := Lib.hid (HB0.out.trans (hb02.mono (by omega)))
  have s2 : w.heap.size + 1 ≤ w2.heap.size := by have := hb02.size; omega
  have x2_0 := cell_below hb02 x0_0 (by omega)
  have x2_1 := cell_below hb02 x0_1 (by omega)
  have n2_0 : w.heap.size < w2.heap.size := by omega
  clear hown1 hb01 hb hb02 x0_0 x0_1 hs0
  go_wp2_with fail
  go_ret2
  exact ⟨_, rfl, (OwnI.of (zs := []) hown2).mono (by omega) (Nat.le_refl _), HB2.out⟩
set_option maxRecDepth 100000 in
set_option maxHeartbeats 4000000 in
theorem spec_yes (a : Option Addr) (ws : List Int) (c : Nat) (q : Int) (w : World) (hr : ints.Reads .i64 w a ws) (hn : ws.length ≤ 1048576) (i : Int) (h : Hid (voterB ws q i = true)) :
    Calls Try.prog 28 #[.agg #[.slice a ws.length c, .int .i64 q], .int .i64 i] w (RetIB (quotap.quotas ws i.toNat (sumZ ws).toNat) true w) := by
  obtain ⟨i0, hi, hz0, hz1, hz2⟩ := info_parts mk.infoInt
  obtain ⟨hv, hi0, hi1⟩ := (voter_iff _ _ _).1 h.out
  have h18 := ((vote_iff _ _).1 hv).1
  have hzz := ((vote_iff _ _).1 hv).2.1
  have hsum := vote_sum hv
  have hat := vote_at hv
  have HSUM := Lib.hid (fun (wa : World) (hb : Below w.heap.size w wa) => spec_sum a ws c q wa (hr.below hb) hn h18.2 hat)
  have HSW := Lib.hid (fun (k : Int) (wa : World) (hb : Below w.heap.size w wa) => swing.spec_once a ws c k wa (hr.below hb) hn h18.2 hzz)
  obtain ⟨ki, rfl⟩ : ∃ k : Nat, i = k := ⟨i.toNat, by omega⟩
  obtain ⟨S, hS⟩ : ∃ S : Nat, sumZ ws = S := ⟨(sumZ ws).toNat, by omega⟩
  rw [hS] at HSUM hsum
  rw [hS, Int.toNat_natCast, Int.toNat_natCast]
  clear hS hat hv hzz
  have HRF := Lib.hid (fun (k : Nat) => row_first (win := winB ws ((k : Int) + 1)) (n := ws.length) (i := ki) (k := 2 ^ ws.length) (by omega))
  have HRL := Lib.hid (fun (k : Nat) => row_length (winB ws ((k : Int) + 1)) one ws.length (2 ^ ws.length) 0)
  have HLS := Lib.hid (fun (k : Nat) => show quotap.quotas ws ki (k + 1) = quotap.quotas ws ki k ++ [sT (winB ws ((k : Int) + 1)) one ki (2 ^ ws.length)] from mk.mk_succ _ _)
  have HLL := Lib.hid (fun (k : Nat) => show (quotap.quotas ws ki k).length = k from mk.mk_length _ _)
  have Hhr := Lib.hid hr
  clear hr
  go_enter Try.func28, Try.ntmps28
  obtain ⟨w0, hw0⟩ : ∃ w0 : World, w0 = w.alloc (.cells #[.slice a ws.length c, .int .i64 q] 29) := ⟨_, rfl⟩
  have x0_0 : w0.cell? ⟨w.heap.size, 0, none⟩ = some (.slice a ws.length c) := by rw [hw0]; exact cell_new _ _ _ rfl rfl
  have x0_1 : w0.cell? ⟨w.heap.size, 1, none⟩ = some (.int .i64 q) := by rw [hw0]; exact cell_new _ _ _ rfl rfl
  have HB0 := Lib.hid (show Below w.heap.size w w0 by rw [hw0]; exact below_alloc w (.cells #[.slice a ws.length c, .int .i64 q] 29))
  have sE := Lib.hid (show w0.heap.size = w.heap.size + 1 by rw [hw0]; simp)
  go_wp2_with fail
  rw [← hw0]
  clear hw0
  obtain ⟨w1, hw1⟩ : ∃ w1 : World, w1 = w0.alloc (.cells #[] 3) := ⟨_, rfl⟩
  have hown1 : w1.ownsRow (w.heap.size + 1) 3 1 (.slice (some ⟨w.heap.size + 1, 0, none⟩) 0 0) 0 [] := by rw [hw1, ← sE.out]; exact World.ownsRow_made (base := w0.heap.size) (e := 3) (size := 1) w0 #[] 0 (Nat.le_refl _) (by unfold maxLen; omega) rfl
  have hb01 : Below (w.heap.size + 1) w0 w1 := by rw [hw1, ← sE.out]; exact below_alloc w0 (.cells #[] 3)
  rw [← hw1]
  clear hw1
  refine (spec_voter a ws c q _ (Hhr.out.below (HB0.out.trans (hb01.mono (by omega)))) hn ki true h).mono ?_
  rintro e w2 ⟨rfl, hb⟩
  have hown2 := ownsRow_block hown1 (fun g e => hb.block g (hown1.lt g e).2)
  have hs0 : w.heap.size + 1 ≤ w0.heap.size := by rw [sE.out]; exact Nat.le_refl _
  have hb02 : Below (w.heap.size + 1) w0 w2 := hb01.trans (hb.mono (by have := hb01.size; omega))
  have HB2 := Lib.hid (HB0.out.trans (hb02.mono (by omega)))
  have s2 : w.heap.size + 1 ≤ w2.heap.size := by have := hb02.size; omega
  have x2_0 := cell_below hb02 x0_0 (by omega)
  have x2_1 := cell_below hb02 x0_1 (by omega)
  have n2_0 : w.heap.size < w2.heap.size := by omega
  clear hown1 hb01 hb hb02 x0_0 x0_1 hs0
  go_wp2_with fail
  go_loopw [6, 7] (fun v i wr => ∃ (k : Nat) (p : Option Addr) (cp : Nat), k ≤ S ∧ i = .int .i64 ((k : Int) + 1) ∧ v = .slice p (quotap.quotas ws ki k).length cp ∧ wr.ownsRow (w.heap.size + 1) 3 1 (.slice p (quotap.quotas ws ki k).length cp) (quotap.quotas ws ki k).length ((quotap.quotas ws ki k).map (Value.int .i64)) ∧ Below (w.heap.size + 1) w2 wr) (fun _ i _ => S + 1 - (intOf i).toNat)
  case atStart => exact ⟨0, _, 0, Nat.zero_le _, rfl, rfl, hown2, (Below.refl _ _).mono (by omega)⟩
  case round =>
    clear hown2
    obtain ⟨k, p, cp, hk, rfl, rfl, hown, hbel⟩ := hrel
    have hszr := hbel.size
    have x3_0 := cell_below hbel x2_0 (by omega)
    have x3_1 := cell_below hbel x2_1 (by omega)
    have HB3 := Lib.hid (HB2.out.trans (hbel.mono (by omega)))
    have hll : (quotap.quotas ws ki k).length ≤ 160 := by rw [HLL.out]; omega
    clear x2_0 x2_1
    go_wp2_with fail
    refine (HSUM.out _ HB3.out).mono ?_
    rintro e w4 ⟨rfl, hb⟩
    have x4_0 := cell_below hb x3_0 (by omega)
    have x4_1 := cell_below hb x3_1 (by omega)
    have hown4 := ownsRow_block hown (fun g e => hb.block g (hown.lt g e).2)
    have hb4 := hbel.trans (hb.mono (by omega))
    have HB4 := Lib.hid (HB3.out.trans (hb.mono (by omega)))
    have s4 := hb4.size
    clear hb hown hbel x3_0 x3_1
    by_cases hlt : k < S
    · have j1 : (k : Int) + 1 ≤ (S : Int) := by omega
      have HBl := Lib.hid hb4
      have HO4 := Lib.hid hown4
      have HM := Lib.hid (HLS.out k)
      have HRFk := Lib.hid (HRF.out k)
      have HRLk := Lib.hid (HRL.out k)
      have HSWk := Lib.hid (HSW.out ((k : Int) + 1))
      clear hown4 hb4
      generalize sT (winB ws ((k : Int) + 1)) one ki (2 ^ ws.length) = x at *
      generalize row (winB ws ((k : Int) + 1)) one ws.length (2 ^ ws.length) 0 = rw0 at *
      generalize quotap.quotas ws ki k = ms at *
      go_wp2_with fail
      refine (HSWk.out _ HB4.out).mono ?_
      rintro e w5 ⟨v, rfl, how, hb⟩
      obtain ⟨rp, rc, rfl, _, _, _⟩ := how.slice
      obtain ⟨rg, hrg, _, _⟩ := bothi.own_block how (by rw [HRLk.out]; omega)
      subst hrg
      have hcl := own_cell how rfl ki (by rw [HRLk.out]; omega)
      rw [HRFk.out] at hcl
      have hrl : ((rw0.length : Nat) : Int) = (ws.length : Int) := by rw [HRLk.out]
      have hown5 := ownsRow_block HO4.out (fun g e => hb.block g (HO4.out.lt g e).2)
      have HV := Lib.hid hown5.lt
      have HO := Lib.hid hown5
      have x5_0 := cell_below hb x4_0 (by omega)
      have x5_1 := cell_below hb x4_1 (by omega)
      have HB5 := Lib.hid (HBl.out.trans (hb.mono (by omega)))
      have s5 := HB5.out.size
      have hsz : w.heap.size + 1 ≤ w5.heap.size := by omega
      have i1 : (0 : Int) ≤ (ki : Int) := by omega
      have i2 : (ki : Int) < ((rw0.length : Nat) : Int) := by omega
      clear hb how hown5 HSWk HRFk HRLk HO4 HBl x4_0 x4_1
      go_wp2_with (at_builtin; refine wpList_append_lies _ rfl _ _ 22 rfl (w.heap.size + 1) 3 i0 (.int .i64 0) 1 8 Try.underlying22 hi hz0 hz1 hz2 rfl (by decide) (.slice p ms.length cp) ms.length (ms.map (Value.int .i64)) rfl (HO.out.alloc _) ⟨w5.heap.size, 0, none⟩ 1 1 [.int .i64 x] rfl rfl (cell_one_new _ _ _) (by simp [Value.oneCell']) (by omega) (by unfold maxLen; omega) (by omega) (by simp; omega) _ rfl ?_; intro gg cap w6 hown' hgrow hat _)
      have HO2 := Lib.hid hown'
      have HB6 := Lib.hid ((HB5.out.alloc hsz _).grown hgrow (by simp; omega) (fun g e => (HV.out g e).1))
      clear hown' hgrow hat
      go_wp2_with fail
      go_roundw
      case rel => exact ⟨k + 1, some ⟨gg, 0, none⟩, cap, by omega, by go_num, by rw [HM.out, List.length_append]; rfl, by rw [HM.out, List.map_append, List.length_append]; exact HO2.out, HB6.out⟩
      case measure => simp [intOf]; omega
    · obtain rfl : k = S := by omega
      have j1 : ¬ (k : Int) + 1 ≤ (k : Int) := by omega
      have hR : RetIB (quotap.quotas ws ki k) true w (.returned (.tuple #[.slice p (quotap.quotas ws ki k).length cp, .bool true])) w4 := ⟨_, rfl, (OwnI.of hown4).mono (by omega) (Nat.le_refl _), HB4.out⟩
      have HF := Lib.hid hR
      clear hR hown4 hb4
      generalize quotap.quotas ws ki k = ms at *
      go_wp2_with fail
      go_ret2
      exact HF.out
end Go.Proofs.Ytplhcboecjegjaa.quotas
