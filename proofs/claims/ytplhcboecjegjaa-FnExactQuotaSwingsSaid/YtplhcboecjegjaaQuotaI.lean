/- The walk of QuotaSwings: the program's. -/
import Derived.Test.YtplhcboecjegjaaQuotaP
import Derived.Test.YtplhcboecjegjaaVoter
import Derived.Test.YtplhcboecjegjaaOutOf
import Derived.Test.YtplhcboecjegjaaBothI
namespace Go.Proofs.Ytplhcboecjegjaa.quotai
open Go.RowKit own pp nums pv voter quotap psw wins bitn bothi
set_option linter.unusedVariables false
attribute [local go_sem ↓] Go.wp_at_zero Go.wp_at_succ
set_option linter.unusedSimpArgs false

theorem only_set (W : World) (g i : Nat) (v : Value) : Only g (g + 1) W (W.setCell ⟨g, i, none⟩ v) :=
  ⟨rfl, rfl, rfl, by rw [size_set]; exact Nat.le_refl _, fun k hk hko => heap_setCell_other W ⟨g, i, none⟩ k v (by show k ≠ g; omega)⟩
theorem dg_tab : ∀ k : Fin 256, ∀ i : Fin 8, Go.bits .and .i64 (((k.val : Nat) : Int) / 2 ^ i.val) 1 = ((dg k.val i.val : Nat) : Int) := fun k i => dg_at k.val i.val (by have := k.isLt; omega)
set_option maxRecDepth 100000 in
theorem dig8 (k i : Nat) (w : World) (hk : k < 256) (hi : i < 8) :
    Calls Try.prog 76 #[.int .i64 k, .int .i64 i] w (fun e w' => e = .returned (.int .i64 ((dg k i : Nat) : Int)) ∧ w' = w) := by
  have hbit := dg_at k i (by omega)
  generalize dg k i = d at *
  go_enter Try.func76, Try.ntmps76
  go_wp2_with fail
  go_ret
  exact ⟨rfl, rfl⟩
set_option maxRecDepth 100000 in
set_option maxHeartbeats 4000000 in
theorem impl_no (a : Option Addr) (ws : List Int) (c : Nat) (q : Int) (w : World) (hr : ints.Reads .i64 w a ws) (hn : ws.length ≤ 1048576) (i : Int) (h : Hid (voterB ws q i = false)) :
    Calls Try.prog 29 #[.agg #[.slice a ws.length c, .int .i64 q], .int .i64 i] w (RetIB [] false w) := by
  have Hhr := Lib.hid hr
  clear hr
  go_enter Try.func29, Try.ntmps29
  go_wp2_with fail
  have x0_0 : (w.alloc (.cells #[.slice a ws.length c, .int .i64 q] 29)).cell? ⟨w.heap.size, 0, none⟩ = some (.slice a ws.length c) := cell_new _ _ _ (by simp) rfl
  have x0_1 : (w.alloc (.cells #[.slice a ws.length c, .int .i64 q] 29)).cell? ⟨w.heap.size, 1, none⟩ = some (.int .i64 q) := cell_new _ _ _ (by simp) rfl
  have HB0 := Lib.hid (below_alloc w (.cells #[.slice a ws.length c, .int .i64 q] 29))
  have s0 : w.heap.size + 1 ≤ (w.alloc (.cells #[.slice a ws.length c, .int .i64 q] 29)).heap.size := by simp
  generalize hw : (w.alloc (.cells #[.slice a ws.length c, .int .i64 q] 29)) = w0 at *
  clear hw
  have n0_0 : w.heap.size < w0.heap.size := by omega
  refine (impl_voter a ws c q _ (Hhr.out.below HB0.out) hn i false h).mono ?_
  rintro e w1 ⟨rfl, hb⟩
  have s1 : w0.heap.size ≤ w1.heap.size := hb.size
  have n1_0 : w.heap.size < w1.heap.size := by omega
  replace x0_0 := cell_below hb x0_0 (by omega)
  replace x0_1 := cell_below hb x0_1 (by omega)
  have HB1 := Lib.hid (HB0.out.trans (hb.mono (by omega)))
  clear hb
  go_wp2_with fail
  go_ret2
  exact ret_empty HB1.out
set_option maxRecDepth 100000 in
set_option maxHeartbeats 4000000 in
theorem impl_yes (a : Option Addr) (ws : List Int) (c : Nat) (q : Int) (w : World) (hr : ints.Reads .i64 w a ws) (hn : ws.length ≤ 1048576) (i : Int) (h : Hid (voterB ws q i = true)) :
    Calls Try.prog 29 #[.agg #[.slice a ws.length c, .int .i64 q], .int .i64 i] w (RetIB (quotas ws i.toNat (sumZ ws).toNat) true w) := by
  obtain ⟨i0, hi, hz0, hz1, hz2⟩ := info_parts mk.infoInt
  obtain ⟨hv, hi0, hi1⟩ := (voter_iff _ _ _).1 h.out
  have h18 := ((vote_iff _ _).1 hv).1
  have hq1 := ((vote_iff _ _).1 hv).2.2
  have hsum := vote_sum hv
  have hat := vote_at hv
  obtain ⟨ki, rfl⟩ : ∃ k : Nat, i = k := ⟨i.toNat, by omega⟩
  obtain ⟨S, hS⟩ : ∃ S : Nat, sumZ ws = S := ⟨(sumZ ws).toNat, by omega⟩
  obtain ⟨hp1, hp2⟩ := bits8.pow8 h18.2
  have hSM := Lib.hid (fun k (_ : k < 2 ^ ws.length) => outc.vote_small hv k)
  have HSU := Lib.hid (fun (wa : World) (hb : Below w.heap.size w wa) => vote.sum_any a ws c wa (hr.below hb) hn (fun j hj => by have := hat j hj; omega))
  have HPR := Lib.hid (fun (wa : World) (hb : Below w.heap.size w wa) => bits8.impl_prods a ws c wa (hr.below hb) h18.2 hSM)
  rw [hS] at HSU hsum hq1
  rw [hS, Int.toNat_natCast, Int.toNat_natCast]
  have hki : ki < ws.length := by omega
  have HAT := Lib.hid (hat ki hki)
  obtain ⟨W, hW⟩ : ∃ W : Nat, ws.getD ki 0 = W := ⟨(ws.getD ki 0).toNat, by have := hat ki hki; omega⟩
  have HROOM := Lib.hid (fun (k : Nat) (h : k < 2 ^ ws.length) (e : dg k ki = 0) => show 0 ≤ sumS ws k ∧ sumS ws k + (W : Int) ≤ (S : Int) by rw [← hW, ← hS]; exact sum_room h18.2 hat hki h e)
  have HNX := Lib.hid (fun (k : Nat) => show rowQ ws ki S k (W : Int) = rowQ ws ki S (k + 1) 0 by rw [← hW]; exact rowQ_next ws ki S k)
  have HALL := Lib.hid (rowQ_all h18.2 hki S)
  have HZ := Lib.hid (rowQ_zero ws ki S)
  have HPG := Lib.hid (fun (k : Nat) (h : k < 2 ^ ws.length) => show (bits8.prods ws).getD k 0 = sumS ws k from bits8.prods_getD ws k h)
  have HPL := Lib.hid (bits8.prods_length ws)
  have HRL := Lib.hid (fun (k : Nat) (m : Int) => rowQ_length ws ki S k m)
  obtain ⟨b0, off0, rfl, hbl, hwc⟩ := hr.at hki
  rw [hW] at hwc
  clear hS hat hv hi0 hi1 hW
  generalize 2 ^ ws.length = N at *
  generalize bits8.prods ws = ps at *
  have Hhr := Lib.hid hr
  clear hr
  go_enter Try.func29, Try.ntmps29
  go_wp2_with fail
  have x0_0 : (w.alloc (.cells #[.slice (some ⟨b0, off0, none⟩) ws.length c, .int .i64 q] 29)).cell? ⟨w.heap.size, 0, none⟩ = some (.slice (some ⟨b0, off0, none⟩) ws.length c) := cell_new _ _ _ (by simp) rfl
  have x0_1 : (w.alloc (.cells #[.slice (some ⟨b0, off0, none⟩) ws.length c, .int .i64 q] 29)).cell? ⟨w.heap.size, 1, none⟩ = some (.int .i64 q) := cell_new _ _ _ (by simp) rfl
  have HB0 := Lib.hid (below_alloc w (.cells #[.slice (some ⟨b0, off0, none⟩) ws.length c, .int .i64 q] 29))
  have s0 : w.heap.size + 1 ≤ (w.alloc (.cells #[.slice (some ⟨b0, off0, none⟩) ws.length c, .int .i64 q] 29)).heap.size := by simp
  generalize hw : (w.alloc (.cells #[.slice (some ⟨b0, off0, none⟩) ws.length c, .int .i64 q] 29)) = w0 at *
  clear hw
  have n0_0 : w.heap.size < w0.heap.size := by omega
  refine (impl_voter (some ⟨b0, off0, none⟩) ws c q _ (Hhr.out.below HB0.out) hn ki true h).mono ?_
  rintro e w1 ⟨rfl, hb⟩
  have x1_0 := cell_below hb x0_0 n0_0
  have x1_1 := cell_below hb x0_1 n0_0
  have s1 : w0.heap.size ≤ w1.heap.size := hb.size
  have n1_0 : w.heap.size < w1.heap.size := by omega
  have HB1 := Lib.hid (HB0.out.trans (hb.mono (by omega)))
  clear hb x0_0 x0_1
  go_wp2_with fail
  refine (HSU.out _ HB1.out).mono ?_
  rintro e w' ⟨rfl, rfl⟩
  go_wp2_with (refine wpList_make_full _ rfl _ _ 22 rfl w1.heap.size 3 i0 (.int .i64 0) 1 Try.underlying22 hi hz0 hz1 .i64 .i64 _ _ S rfl rfl rfl rfl (by rw [hz2]; omega) (by unfold maxLen; omega) (Nat.le_refl _) ?_; intro w2 hown2 hgrow2; refine Hid.out ?_)
  refine Lib.hid ?_
  have hb2 : Below w1.heap.size w1 w2 := (Below.refl _ _).grown hgrow2 (Nat.le_refl _) (by simp)
  have e0 : List.replicate S (Value.int .i64 0) = (rowQ ws ki S 0 0).map (Value.int .i64) := by rw [HZ.out, List.map_replicate]
  rw [show (Value.int .i64 0).cells = #[Value.int .i64 0] from rfl, Nat.mul_one, toList_madeCells_one, e0] at hown2
  have HO2 := Lib.hid (show OwnI w1.heap.size (w1.heap.size + 1) w2 (.slice (some ⟨w1.heap.size, 0, none⟩) S S) (rowQ ws ki S 0 0) from ⟨by rw [HRL.out]; exact hown2, fun g e => by obtain rfl : w1.heap.size = g := (by simpa [Value.ownBlock] using e); omega⟩)
  have s2 : w1.heap.size < w2.heap.size := (hown2.lt _ rfl).2
  have x2_0 := cell_below hb2 x1_0 n1_0
  have x2_1 := cell_below hb2 x1_1 n1_0
  have HB2 := Lib.hid (HB1.out.trans (hb2.mono (by omega)))
  clear hb2 e0 hown2 hgrow2 x1_0 x1_1
  go_wp2_with fail
  refine (HPR.out _ HB2.out).mono ?_
  rintro e w3 ⟨v, rfl, hop, hb⟩
  obtain ⟨pg, pc, rfl, _, _, _⟩ := hop.slice
  obtain ⟨pb, hpb, hpb1, hpb2⟩ := bothi.own_block hop (by rw [HPL.out]; omega)
  subst hpb
  have x3_0 := cell_below hb x2_0 (by omega)
  have x3_1 := cell_below hb x2_1 (by omega)
  have HO3 := Lib.hid (HO2.out.below hb)
  have HP3 := Lib.hid hop
  have s3 : w2.heap.size ≤ w3.heap.size := hb.size
  have HB3 := Lib.hid (HB2.out.trans (hb.mono (by omega)))
  clear hb hop HO2 x2_0 x2_1
  rw [HPL.out] at HP3 ⊢
  go_wp2_with fail
  go_loopw [23] (fun i wr => ∃ k : Nat, k ≤ N ∧ i = .int .i64 k ∧ OwnI w1.heap.size (w1.heap.size + 1) wr (.slice (some ⟨w1.heap.size, 0, none⟩) S S) (rowQ ws ki S k 0) ∧ Only w1.heap.size (w1.heap.size + 1) w3 wr) (fun i _ => N - (intOf i).toNat)
  case atStart => exact ⟨0, Nat.zero_le _, rfl, HO3.out, Only.refl _ _ _⟩
  case round =>
    clear HO3
    obtain ⟨k, hk, rfl, hown, hon⟩ := hrel
    by_cases hlt : k < N
    · have HO := Lib.hid hown
      have HON := Lib.hid hon
      have hop := HP3.out.only hon (.inr (by omega))
      have cp := own_cell hop HPL.out.symm k (by rw [HPL.out]; exact hlt)
      rw [HPG.out k hlt] at cp
      have sr := hon.size
      have x4_0 := hon.cell x3_0 (by omega) (.inl (by omega))
      have x4_1 := hon.cell x3_1 (by omega) (.inl (by omega))
      have HB4 := Lib.hid (HB3.out.trans ((hon.below (by omega)).mono (by omega)))
      have hwr := cell_below HB4.out hwc hbl
      have i1 : (0 : Int) ≤ (k : Int) := by omega
      have i2 : (k : Int) < (N : Int) := by omega
      have i3 : (0 : Int) ≤ (ki : Int) := by omega
      have i4 : (ki : Int) < (ws.length : Int) := by omega
      have HD := Lib.hid (fun (wz : World) => dig8 k ki wz (by omega) (by omega))
      have hdl := dg_le k ki
      have HRM := Lib.hid (HROOM.out k hlt)
      clear hown hon hop
      by_cases hd : dg k ki = 1
      · have HSK := Lib.hid (rowQ_skip (ws := ws) S hd)
        rw [hd] at HD
        clear hd hdl
        generalize sumS ws k = sk at *
        go_wp2_with fail
        refine (HD.out _).mono ?_
        rintro e w' ⟨rfl, rfl⟩
        go_wp2_with fail
        go_roundw
        case rel => exact ⟨k + 1, by omega, by go_num, by rw [← HSK.out]; exact HO.out, HON.out⟩
        case measure => simp [intOf]; omega
      have hd0 : dg k ki = 0 := by omega
      have HST := Lib.hid (fun (m t : Nat) (ht : t < S) (e : (t : Int) = sumS ws k + m) => rowQ_set (ws := ws) (m := m) hd0 ht e)
      have HRA := Lib.hid (fun (m : Nat) (t : Nat) (ht : t < S) => rowQ_at ws ki S k (m : Int) t ht)
      have HRM2 := Lib.hid (HRM.out hd0)
      rw [hd0] at HD
      clear hd hd0 hdl HRM
      obtain ⟨T, hT⟩ : ∃ T : Nat, sumS ws k = T := ⟨(sumS ws k).toNat, by have := HRM2.out; omega⟩
      rw [hT] at cp HRM2 HST
      clear hT
      have hrm := HRM2.out
      go_wp2_with fail
      refine (HD.out _).mono ?_
      rintro e w' ⟨rfl, rfl⟩
      go_wp2_with fail
      obtain ⟨wo, hwo⟩ : ∃ wo : World, wo = w' := ⟨_, rfl⟩
      go_loopw [37] (fun j wq => ∃ m : Nat, m ≤ W ∧ j = .int .i64 m ∧ OwnI w1.heap.size (w1.heap.size + 1) wq (.slice (some ⟨w1.heap.size, 0, none⟩) S S) (rowQ ws ki S k (m : Int)) ∧ Only w1.heap.size (w1.heap.size + 1) w3 wq) (fun j _ => W - (intOf j).toNat)
      case atStart => exact ⟨0, Nat.zero_le _, rfl, HO.out, HON.out⟩
      case round =>
        clear HO HON
        obtain ⟨m, hm, rfl, hown, hon⟩ := hrel
        by_cases hml : m < W
        · have hts : T + m < S := by omega
          have hcl := own_cell hown (HRL.out k m).symm (T + m) (by rw [HRL.out]; exact hts)
          have hfr := own_fro hown (HRL.out k m).symm (T + m)
          have hst := HST.out m (T + m) hts (by omega)
          have hra := HRA.out m (T + m) hts
          have HPUT := Lib.hid (own_put hown (HRL.out k m).symm (T + m) ((rowQ ws ki S k (m : Int)).getD (T + m) 0 + 1))
          rw [hst] at HPUT
          have HON := Lib.hid hon
          have e6 : IntKind.i64.wrap ((rowQ ws ki S k (m : Int)).getD (T + m) 0 + 1) = (rowQ ws ki S k (m : Int)).getD (T + m) 0 + 1 := IntWalk.i64_in _ (by omega)
          have HON5 := Lib.hid (hon.trans (only_set wr w1.heap.size (T + m) (.int .i64 ((rowQ ws ki S k (m : Int)).getD (T + m) 0 + 1))))
          have j1 : (0 : Int) ≤ (T : Int) + (m : Int) := by omega
          have j2 : (T : Int) + (m : Int) < (S : Int) := by omega
          have j3 : ((T : Int) + (m : Int)).toNat = T + m := by omega
          clear hst hown hon hra
          generalize (rowQ ws ki S k (m : Int)).getD (T + m) 0 = x at *
          go_wp2_with fail
          go_roundw
          case rel => exact ⟨m + 1, by omega, by go_num, HPUT.out, HON5.out⟩
          case measure => simp [intOf]; omega
        · obtain rfl : m = W := by omega
          rw [HNX.out] at hown
          have HO := Lib.hid hown
          have HON := Lib.hid hon
          clear hown hon
          go_wp2_with fail
          go_roundw
          case rel => exact ⟨k + 1, by omega, by go_num, HO.out, HON.out⟩
          case measure => simp [intOf]; omega
    · obtain rfl : k = N := by omega
      rw [HALL.out] at hown
      have hR : RetIB (quotas ws ki S) true w (.returned (.tuple #[.slice (some ⟨w1.heap.size, 0, none⟩) S S, .bool true])) wr := ⟨_, rfl, hown.mono (by omega) (by have := hon.size; omega), HB3.out.trans ((hon.below (by omega)).mono (by omega))⟩
      have HF := Lib.hid hR
      clear hR hown hon
      go_wp2_with fail
      go_ret2
      exact HF.out
end Go.Proofs.Ytplhcboecjegjaa.quotai
