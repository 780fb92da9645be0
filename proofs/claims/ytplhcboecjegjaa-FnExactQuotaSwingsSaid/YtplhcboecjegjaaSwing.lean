/- The walks of the model's swings: each counted once, or by the orders in which it is pivotal. -/
import Derived.Test.YtplhcboecjegjaaPSw
import Derived.Test.YtplhcboecjegjaaWins
import Derived.StillTailTactics
import Derived.Laws.Rows
import Derived.Deep.RegionHeld3
namespace Go.Proofs.Ytplhcboecjegjaa.swing
open Go.RowKit own pp nums ownb pv mk bitn pop psw wins
set_option linter.unusedVariables false
set_option linter.unusedSimpArgs false

theorem only_set (W : World) (g i : Nat) (v : Value) : Only g (g + 1) W (W.setCell ⟨g, i, none⟩ v) :=
  ⟨rfl, rfl, rfl, by rw [size_set]; exact Nat.le_refl _, fun k hk hko => heap_setCell_other W ⟨g, i, none⟩ k v (by show k ≠ g; omega)⟩
set_option maxRecDepth 100000 in
set_option maxHeartbeats 4000000 in
theorem spec_once (a : Option Addr) (ws : List Int) (c : Nat) (q : Int) (w : World) (hr : ints.Reads .i64 w a ws) (hn : ws.length ≤ 1048576) (h8 : ws.length ≤ 8) (hz : range.numsR 0 20 ws = true) :
    Calls Try.prog 72 #[.agg #[.slice a ws.length c, .int .i64 q], .bool false] w (intfns.Made (row (winB ws q) (one) ws.length (2 ^ ws.length) 0) w) := by
  obtain ⟨i0, hi, hz0, hz1, hz2⟩ := info_parts mk.infoInt
  obtain ⟨hp1, hp2⟩ := bits8.pow8 h8
  have HWB := Lib.hid (one_bd)
  have HC := Lib.hid (fun (wa : World) (hb : Below w.heap.size w wa) => spec_wins a ws c q wa (hr.below hb) hn h8 hz)
  have HPB := Lib.hid (fun k (h : k < 2 ^ ws.length) => show pc k ≤ ws.length from pc_bd ⟨ws.length, by omega⟩ ⟨k, by omega⟩ h)
  have HON1 := Lib.hid (fun k i (h : k < 2 ^ ws.length) (hi : i < ws.length) => onn_lt h8 h hi)
  generalize winB ws q = win at *
  obtain ⟨wf, hwf⟩ : ∃ wf : Nat → Int, wf = one := ⟨_, rfl⟩
  have HWF := Lib.hid (show ∀ s, wf s = one s from fun s => by rw [hwf])
  rw [← hwf] at HWB ⊢
  clear hwf
  obtain ⟨N, hN⟩ : ∃ N : Nat, 2 ^ ws.length = N := ⟨_, rfl⟩
  have HN := Lib.hid hN
  rw [hN] at hp1 hp2 HC HPB HON1
  clear hN hr hz
  go_enter Try.func72, Try.ntmps72
  obtain ⟨w0, hw0⟩ : ∃ w0 : World, w0 = w.alloc (.cells #[.slice a ws.length c, .int .i64 q] 29) := ⟨_, rfl⟩
  have x0 : w0.cell? ⟨w.heap.size, 0, none⟩ = some (.slice a ws.length c) := by rw [hw0]; exact cell_new _ _ _ rfl rfl
  have x1 : w0.cell? ⟨w.heap.size, 1, none⟩ = some (.int .i64 q) := by rw [hw0]; exact cell_new _ _ _ rfl rfl
  have HB0 := Lib.hid (show Below w.heap.size w w0 by rw [hw0]; exact below_alloc w (.cells #[.slice a ws.length c, .int .i64 q] 29))
  have s0 : w0.heap.size = w.heap.size + 1 := by rw [hw0]; simp
  go_wp2_with fail
  rw [← hw0]
  clear hw0
  have HT0 := Lib.hid (show ∀ wa : World, (wa.cell? ⟨w.heap.size, 0, none⟩ = some (.slice a ws.length c) ∧ wa.cell? ⟨w.heap.size, 1, none⟩ = some (.int .i64 q) ∧ Below w0.heap.size w0 wa) → Calls Try.prog 69 #[.agg #[.slice a ws.length c, .int .i64 q]] wa (fun e w' => ∃ gb cb, e = .returned (.slice (some ⟨gb, 0, none⟩) N cb) ∧ OwnB w0.heap.size w'.heap.size w' (.slice (some ⟨gb, 0, none⟩) N cb) N win ∧ w'.cell? ⟨w.heap.size, 0, none⟩ = some (.slice a ws.length c) ∧ w'.cell? ⟨w.heap.size, 1, none⟩ = some (.int .i64 q) ∧ Below w0.heap.size w0 w') from fun wa hS => by
    have hwz := hS.2.2.size
    refine (HC.out wa (HB0.out.trans (hS.2.2.mono (by omega)))).mono ?_
    rintro e w' ⟨v, rfl, ho, hb⟩
    obtain ⟨gb, cb, rfl, h1, h2, h3, h4, h5⟩ := ho.slice hp1
    exact ⟨gb, cb, rfl, ho.mono hwz (Nat.le_refl _), cell_below hb hS.1 (by omega), cell_below hb hS.2.1 (by omega), hS.2.2.trans (hb.mono (by omega))⟩)
  go_region_held3 (fun w' => w'.cell? ⟨w.heap.size, 0, none⟩ = some (.slice a ws.length c) ∧ w'.cell? ⟨w.heap.size, 1, none⟩ = some (.int .i64 q) ∧ Below w0.heap.size w0 w') (first | assumption | exact ⟨x0, x1, Below.refl _ _⟩ | exact ⟨x0, x1, (Below.refl _ _).drew⟩) (first | (go_at_call 69; refine Calls.mono (HT0.out _ (by assumption)) ?_; rintro e w1 ⟨gb, cb, rfl, hob, hbx⟩))
  obtain ⟨_, _, hb1⟩ := hbx
  have HB1 := Lib.hid (HB0.out.trans (hb1.mono (by omega)))
  have s1 := hb1.size
  have HOB := Lib.hid hob
  clear hb1 hob HT0 x0 x1 HC
  go_wp2_with (refine wpList_make_full _ rfl _ _ 22 rfl w1.heap.size 3 i0 (.int .i64 0) 1 Try.underlying22 hi hz0 hz1 .i64 .i64 _ _ ws.length rfl rfl rfl rfl (by rw [hz2]; omega) (by unfold maxLen; omega) (Nat.le_refl _) ?_; intro w2 hown2 hgrow2; refine Hid.out ?_)
  refine Lib.hid ?_
  have hb2 : Below w1.heap.size w1 w2 := (Below.refl _ _).grown hgrow2 (Nat.le_refl _) (by simp)
  have e0 : List.replicate ws.length (Value.int .i64 0) = (row win wf ws.length 0 0).map (Value.int .i64) := by rw [row_zero, List.map_replicate]
  rw [show (Value.int .i64 0).cells = #[Value.int .i64 0] from rfl, Nat.mul_one, toList_madeCells_one, e0] at hown2
  have HB2 := Lib.hid (HB1.out.trans (hb2.mono (by omega)))
  replace HOB := Lib.hid (HOB.out.below hb2)
  have s2 : w1.heap.size < w2.heap.size := (hown2.lt _ rfl).2
  clear e0 hgrow2 hb2
  go_wp2_with fail
  go_loopw [8] (fun i wr => ∃ k : Nat, k ≤ N ∧ i = .int .i64 k ∧ wr.ownsRow w1.heap.size 3 1 (.slice (some ⟨w1.heap.size, 0, none⟩) ws.length ws.length) ws.length ((row win wf ws.length k 0).map (Value.int .i64)) ∧ Only w1.heap.size (w1.heap.size + 1) w2 wr) (fun i _ => N - (intOf i).toNat)
  case atStart => exact ⟨0, Nat.zero_le _, rfl, hown2, Only.refl _ _ _⟩
  case round =>
    obtain ⟨k, hk, rfl, hown, hon⟩ := hrel
    clear hown2
    obtain ⟨wo, hwo⟩ : ∃ wo : World, wo = wr := ⟨_, rfl⟩
    by_cases hlt : k < N
    · have HO := Lib.hid hown
      have HON := Lib.hid hon
      clear hown hon
      go_wp2_with fail
      subst hwo
      go_loopw [9] (fun j wq => ∃ i : Nat, i ≤ ws.length ∧ j = .int .i64 i ∧ wq.ownsRow w1.heap.size 3 1 (.slice (some ⟨w1.heap.size, 0, none⟩) ws.length ws.length) ws.length ((row win wf ws.length k i).map (Value.int .i64)) ∧ Only w1.heap.size (w1.heap.size + 1) w2 wq) (fun j _ => ws.length - (intOf j).toNat)
      case atStart => exact ⟨0, Nat.zero_le _, rfl, HO.out, HON.out⟩
      case round =>
        obtain ⟨i, hin, rfl, hown, hon⟩ := hrel
        clear HO HON
        by_cases hil : i < ws.length
        · have HON := Lib.hid hon
          have sz := hon.size
          have hob := HOB.out.only hon (.inl (Nat.le_refl _))
          have HSK := Lib.hid (fun (h : sw win k i = false) => row_skip (wf := wf) ws.length h)
          have hbit := dg_at k i (by omega)
          have hdl := dg_le k i
          have HZ := Lib.hid (fun (h : dg k i = 0) => sw_zero (win := win) h)
          have HOF := Lib.hid (fun (h : dg k i = 1) => xor_off k i (by omega) (by omega) h)
          have hofl := off_le k i
          have HSW := Lib.hid (show sw win k i = (win k && !(win (off k i))) from rfl)
          have HPP := Lib.hid (fun (h : dg k i = 1) => show 1 ≤ pc k from pc_pos ⟨i, by omega⟩ ⟨k, by omega⟩ h)
          obtain ⟨I, hI⟩ : ∃ I : Nat, 2 ^ i = I := ⟨_, rfl⟩
          have hI2 : (2 : Int) ^ i = (I : Int) := by rw [← hI]; simp
          have hI8 := bits8.pow8 (n := i) (by omega)
          rw [hI] at hI8 HOF
          rw [hI2] at hbit
          clear hI
          obtain ⟨q1, _, he, _, _, _, _, hcs⟩ := hob.slice hp1
          cases he
          have hck := hcs k hlt
          have hcq := hcs (off k i) (by omega)
          clear hcs hob
          generalize off k i = o at *
          have hx : dg k i = 0 ∨ dg k i = 1 := by omega
          rcases hx with hd | hd
          · rw [hd] at hbit
            have HK := Lib.hid (HSK.out (HZ.out hd))
            have HO2 := Lib.hid hown
            clear hd hdl hown hon HOF HPP HSW
            go_wp2_with fail
            go_roundw
            case rel => exact ⟨i + 1, by omega, by go_num, by rw [HK.out]; exact HO2.out, HON.out⟩
            case measure => simp [intOf]; omega
          have hxo := xor_nat k I (by omega) (by omega)
          rw [HOF.out hd] at hxo
          have hpp := HPP.out hd
          rw [hd] at hbit
          clear HOF hd hdl HZ HPP
          have j1 : (0 : Int) ≤ (k : Int) := by omega
          have j2 : (k : Int) < (N : Int) := by omega
          have j3 : (0 : Int) ≤ (o : Int) := by omega
          have j4 : (o : Int) < (N : Int) := by omega
          cases hwk : win k
          · have HK := Lib.hid (HSK.out (by rw [HSW.out, hwk]; rfl))
            rw [hwk] at hck
            have HO2 := Lib.hid hown
            clear hown hon HSW hwk
            go_wp2_with fail
            go_roundw
            case rel => exact ⟨i + 1, by omega, by go_num, by rw [HK.out]; exact HO2.out, HON.out⟩
            case measure => simp [intOf]; omega
          cases hwo2 : win o
          · have hs := HSW.out
            rw [hwk, hwo2] at hs
            rw [hwk] at hck
            rw [hwo2] at hcq
            have hs1 : sw win k i = true := hs
            clear hs HSW hwk hwo2 HSK
            have hcell : wr.cell? ⟨w1.heap.size, i, none⟩ = some (.int .i64 (sT win wf i k)) := by rw [hown.cellAt i (by omega), row_cell _ _ _ _ _ hil]
            have hfro := hown.frozenAt i
            have hst := hown.stored i (.int .i64 (sT win wf i k + wf (pc k)))
            rw [row_set hil hs1] at hst
            have HST := Lib.hid hst
            have HON2 := Lib.hid (hon.trans (only_set wr w1.heap.size i (.int .i64 (sT win wf i k + wf (pc k)))))
            have hbd := sT_bd (win := win) HWB.out i k
            have hwd := HWB.out (pc k)
            have HSZ := Lib.hid (fun W => size_any k W (by omega))
            have hpn := HPB.out k hlt
            have HWV := Lib.hid (HWF.out (pc k))
            clear hst hown hon hs1
            rw [show wf (pc k) = 1 from HWV.out] at HST HON2
            generalize sT win wf i k = s at *
            generalize pc k = p at *
            clear HWV hwd
            go_wp2_with fail
            refine (HSZ.out _).mono ?_
            rintro e w' ⟨rfl, rfl⟩
            go_wp2_with fail
            go_roundw
            case rel => exact ⟨i + 1, by omega, by go_num, HST.out.1, HON2.out⟩
            case measure => simp [intOf]; omega
          · have HK := Lib.hid (HSK.out (by rw [HSW.out, hwk, hwo2]; rfl))
            rw [hwk] at hck
            rw [hwo2] at hcq
            have HO2 := Lib.hid hown
            clear hown hon HSW hwk hwo2
            go_wp2_with fail
            go_roundw
            case rel => exact ⟨i + 1, by omega, by go_num, by rw [HK.out]; exact HO2.out, HON.out⟩
            case measure => simp [intOf]; omega
        · obtain rfl : i = ws.length := by omega
          rw [row_next] at hown
          have HO2 := Lib.hid hown
          have HON := Lib.hid hon
          clear hown hon
          go_wp2_with fail
          go_roundw
          case rel => exact ⟨k + 1, by omega, by go_num, HO2.out, HON.out⟩
          case measure => simp [intOf]; omega
    · obtain rfl : k = N := by omega
      have HF := Lib.hid (show intfns.Made (row win wf ws.length (2 ^ ws.length) 0) w (.returned (.slice (some ⟨w1.heap.size, 0, none⟩) ws.length ws.length)) wr from ⟨_, rfl, by rw [HN.out]; exact ((OwnI.of (by rw [row_length]; exact hown)).mono (by omega) (Nat.le_refl _)), HB2.out.trans ((hon.below (by omega)).mono (by omega))⟩)
      clear hown hon hwo
      go_wp2_with fail
      go_ret
      exact HF.out
set_option maxRecDepth 100000 in
set_option maxHeartbeats 4000000 in
theorem spec_orders (a : Option Addr) (ws : List Int) (c : Nat) (q : Int) (w : World) (hr : ints.Reads .i64 w a ws) (hn : ws.length ≤ 1048576) (h8 : ws.length ≤ 8) (hz : range.numsR 0 20 ws = true) :
    Calls Try.prog 72 #[.agg #[.slice a ws.length c, .int .i64 q], .bool true] w (intfns.Made (row (winB ws q) (ord ws.length) ws.length (2 ^ ws.length) 0) w) := by
  obtain ⟨i0, hi, hz0, hz1, hz2⟩ := info_parts mk.infoInt
  obtain ⟨hp1, hp2⟩ := bits8.pow8 h8
  have HWB := Lib.hid (ord_bd ws.length)
  have HC := Lib.hid (fun (wa : World) (hb : Below w.heap.size w wa) => spec_wins a ws c q wa (hr.below hb) hn h8 hz)
  have HPB := Lib.hid (fun k (h : k < 2 ^ ws.length) => show pc k ≤ ws.length from pc_bd ⟨ws.length, by omega⟩ ⟨k, by omega⟩ h)
  have HON1 := Lib.hid (fun k i (h : k < 2 ^ ws.length) (hi : i < ws.length) => onn_lt h8 h hi)
  generalize winB ws q = win at *
  obtain ⟨wf, hwf⟩ : ∃ wf : Nat → Int, wf = ord ws.length := ⟨_, rfl⟩
  have HWF := Lib.hid (show ∀ s, wf s = ord ws.length s from fun s => by rw [hwf])
  rw [← hwf] at HWB ⊢
  clear hwf
  obtain ⟨N, hN⟩ : ∃ N : Nat, 2 ^ ws.length = N := ⟨_, rfl⟩
  have HN := Lib.hid hN
  rw [hN] at hp1 hp2 HC HPB HON1
  clear hN hr hz
  go_enter Try.func72, Try.ntmps72
  obtain ⟨w0, hw0⟩ : ∃ w0 : World, w0 = w.alloc (.cells #[.slice a ws.length c, .int .i64 q] 29) := ⟨_, rfl⟩
  have x0 : w0.cell? ⟨w.heap.size, 0, none⟩ = some (.slice a ws.length c) := by rw [hw0]; exact cell_new _ _ _ rfl rfl
  have x1 : w0.cell? ⟨w.heap.size, 1, none⟩ = some (.int .i64 q) := by rw [hw0]; exact cell_new _ _ _ rfl rfl
  have HB0 := Lib.hid (show Below w.heap.size w w0 by rw [hw0]; exact below_alloc w (.cells #[.slice a ws.length c, .int .i64 q] 29))
  have s0 : w0.heap.size = w.heap.size + 1 := by rw [hw0]; simp
  go_wp2_with fail
  rw [← hw0]
  clear hw0
  have HT0 := Lib.hid (show ∀ wa : World, (wa.cell? ⟨w.heap.size, 0, none⟩ = some (.slice a ws.length c) ∧ wa.cell? ⟨w.heap.size, 1, none⟩ = some (.int .i64 q) ∧ Below w0.heap.size w0 wa) → Calls Try.prog 69 #[.agg #[.slice a ws.length c, .int .i64 q]] wa (fun e w' => ∃ gb cb, e = .returned (.slice (some ⟨gb, 0, none⟩) N cb) ∧ OwnB w0.heap.size w'.heap.size w' (.slice (some ⟨gb, 0, none⟩) N cb) N win ∧ w'.cell? ⟨w.heap.size, 0, none⟩ = some (.slice a ws.length c) ∧ w'.cell? ⟨w.heap.size, 1, none⟩ = some (.int .i64 q) ∧ Below w0.heap.size w0 w') from fun wa hS => by
    have hwz := hS.2.2.size
    refine (HC.out wa (HB0.out.trans (hS.2.2.mono (by omega)))).mono ?_
    rintro e w' ⟨v, rfl, ho, hb⟩
    obtain ⟨gb, cb, rfl, h1, h2, h3, h4, h5⟩ := ho.slice hp1
    exact ⟨gb, cb, rfl, ho.mono hwz (Nat.le_refl _), cell_below hb hS.1 (by omega), cell_below hb hS.2.1 (by omega), hS.2.2.trans (hb.mono (by omega))⟩)
  go_region_held3 (fun w' => w'.cell? ⟨w.heap.size, 0, none⟩ = some (.slice a ws.length c) ∧ w'.cell? ⟨w.heap.size, 1, none⟩ = some (.int .i64 q) ∧ Below w0.heap.size w0 w') (first | assumption | exact ⟨x0, x1, Below.refl _ _⟩ | exact ⟨x0, x1, (Below.refl _ _).drew⟩) (first | (go_at_call 69; refine Calls.mono (HT0.out _ (by assumption)) ?_; rintro e w1 ⟨gb, cb, rfl, hob, hbx⟩))
  obtain ⟨_, _, hb1⟩ := hbx
  have HB1 := Lib.hid (HB0.out.trans (hb1.mono (by omega)))
  have s1 := hb1.size
  have HOB := Lib.hid hob
  clear hb1 hob HT0 x0 x1 HC
  go_wp2_with (refine wpList_make_full _ rfl _ _ 22 rfl w1.heap.size 3 i0 (.int .i64 0) 1 Try.underlying22 hi hz0 hz1 .i64 .i64 _ _ ws.length rfl rfl rfl rfl (by rw [hz2]; omega) (by unfold maxLen; omega) (Nat.le_refl _) ?_; intro w2 hown2 hgrow2; refine Hid.out ?_)
  refine Lib.hid ?_
  have hb2 : Below w1.heap.size w1 w2 := (Below.refl _ _).grown hgrow2 (Nat.le_refl _) (by simp)
  have e0 : List.replicate ws.length (Value.int .i64 0) = (row win wf ws.length 0 0).map (Value.int .i64) := by rw [row_zero, List.map_replicate]
  rw [show (Value.int .i64 0).cells = #[Value.int .i64 0] from rfl, Nat.mul_one, toList_madeCells_one, e0] at hown2
  have HB2 := Lib.hid (HB1.out.trans (hb2.mono (by omega)))
  replace HOB := Lib.hid (HOB.out.below hb2)
  have s2 : w1.heap.size < w2.heap.size := (hown2.lt _ rfl).2
  clear e0 hgrow2 hb2
  go_wp2_with fail
  go_loopw [8] (fun i wr => ∃ k : Nat, k ≤ N ∧ i = .int .i64 k ∧ wr.ownsRow w1.heap.size 3 1 (.slice (some ⟨w1.heap.size, 0, none⟩) ws.length ws.length) ws.length ((row win wf ws.length k 0).map (Value.int .i64)) ∧ Only w1.heap.size (w1.heap.size + 1) w2 wr) (fun i _ => N - (intOf i).toNat)
  case atStart => exact ⟨0, Nat.zero_le _, rfl, hown2, Only.refl _ _ _⟩
  case round =>
    obtain ⟨k, hk, rfl, hown, hon⟩ := hrel
    clear hown2
    obtain ⟨wo, hwo⟩ : ∃ wo : World, wo = wr := ⟨_, rfl⟩
    by_cases hlt : k < N
    · have HO := Lib.hid hown
      have HON := Lib.hid hon
      clear hown hon
      go_wp2_with fail
      subst hwo
      go_loopw [9] (fun j wq => ∃ i : Nat, i ≤ ws.length ∧ j = .int .i64 i ∧ wq.ownsRow w1.heap.size 3 1 (.slice (some ⟨w1.heap.size, 0, none⟩) ws.length ws.length) ws.length ((row win wf ws.length k i).map (Value.int .i64)) ∧ Only w1.heap.size (w1.heap.size + 1) w2 wq) (fun j _ => ws.length - (intOf j).toNat)
      case atStart => exact ⟨0, Nat.zero_le _, rfl, HO.out, HON.out⟩
      case round =>
        obtain ⟨i, hin, rfl, hown, hon⟩ := hrel
        clear HO HON
        by_cases hil : i < ws.length
        · have HON := Lib.hid hon
          have sz := hon.size
          have hob := HOB.out.only hon (.inl (Nat.le_refl _))
          have HSK := Lib.hid (fun (h : sw win k i = false) => row_skip (wf := wf) ws.length h)
          have hbit := dg_at k i (by omega)
          have hdl := dg_le k i
          have HZ := Lib.hid (fun (h : dg k i = 0) => sw_zero (win := win) h)
          have HOF := Lib.hid (fun (h : dg k i = 1) => xor_off k i (by omega) (by omega) h)
          have hofl := off_le k i
          have HSW := Lib.hid (show sw win k i = (win k && !(win (off k i))) from rfl)
          have HPP := Lib.hid (fun (h : dg k i = 1) => show 1 ≤ pc k from pc_pos ⟨i, by omega⟩ ⟨k, by omega⟩ h)
          obtain ⟨I, hI⟩ : ∃ I : Nat, 2 ^ i = I := ⟨_, rfl⟩
          have hI2 : (2 : Int) ^ i = (I : Int) := by rw [← hI]; simp
          have hI8 := bits8.pow8 (n := i) (by omega)
          rw [hI] at hI8 HOF
          rw [hI2] at hbit
          clear hI
          obtain ⟨q1, _, he, _, _, _, _, hcs⟩ := hob.slice hp1
          cases he
          have hck := hcs k hlt
          have hcq := hcs (off k i) (by omega)
          clear hcs hob
          generalize off k i = o at *
          have hx : dg k i = 0 ∨ dg k i = 1 := by omega
          rcases hx with hd | hd
          · rw [hd] at hbit
            have HK := Lib.hid (HSK.out (HZ.out hd))
            have HO2 := Lib.hid hown
            clear hd hdl hown hon HOF HPP HSW
            go_wp2_with fail
            go_roundw
            case rel => exact ⟨i + 1, by omega, by go_num, by rw [HK.out]; exact HO2.out, HON.out⟩
            case measure => simp [intOf]; omega
          have hxo := xor_nat k I (by omega) (by omega)
          rw [HOF.out hd] at hxo
          have hpp := HPP.out hd
          rw [hd] at hbit
          clear HOF hd hdl HZ HPP
          have j1 : (0 : Int) ≤ (k : Int) := by omega
          have j2 : (k : Int) < (N : Int) := by omega
          have j3 : (0 : Int) ≤ (o : Int) := by omega
          have j4 : (o : Int) < (N : Int) := by omega
          cases hwk : win k
          · have HK := Lib.hid (HSK.out (by rw [HSW.out, hwk]; rfl))
            rw [hwk] at hck
            have HO2 := Lib.hid hown
            clear hown hon HSW hwk
            go_wp2_with fail
            go_roundw
            case rel => exact ⟨i + 1, by omega, by go_num, by rw [HK.out]; exact HO2.out, HON.out⟩
            case measure => simp [intOf]; omega
          cases hwo2 : win o
          · have hs := HSW.out
            rw [hwk, hwo2] at hs
            rw [hwk] at hck
            rw [hwo2] at hcq
            have hs1 : sw win k i = true := hs
            clear hs HSW hwk hwo2 HSK
            have hcell : wr.cell? ⟨w1.heap.size, i, none⟩ = some (.int .i64 (sT win wf i k)) := by rw [hown.cellAt i (by omega), row_cell _ _ _ _ _ hil]
            have hfro := hown.frozenAt i
            have hst := hown.stored i (.int .i64 (sT win wf i k + wf (pc k)))
            rw [row_set hil hs1] at hst
            have HST := Lib.hid hst
            have HON2 := Lib.hid (hon.trans (only_set wr w1.heap.size i (.int .i64 (sT win wf i k + wf (pc k)))))
            have hbd := sT_bd (win := win) HWB.out i k
            have hwd := HWB.out (pc k)
            have HSZ := Lib.hid (fun W => size_any k W (by omega))
            have hpn := HPB.out k hlt
            have HWV := Lib.hid (HWF.out (pc k))
            clear hst hown hon hs1
            have HF1 := Lib.hid (fun W => (spec_fac (pc k - 1) W (by omega)).mono (fun e w' h => (⟨h.1, h.2.symm⟩ : e = .returned (.int .i64 (fac (pc k - 1) : Nat)) ∧ w' = W)))
            have HF2 := Lib.hid (fun W => (spec_fac (ws.length - pc k) W (by omega)).mono (fun e w' h => (⟨h.1, h.2.symm⟩ : e = .returned (.int .i64 (fac (ws.length - pc k) : Nat)) ∧ w' = W)))
            rw [show wf (pc k) = ((fac (pc k - 1) : Nat) : Int) * ((fac (ws.length - pc k) : Nat) : Int) from (HWV.out).trans (ord_eq (by omega) h8)] at HST HON2 hwd
            have c1 : ((pc k - 1 : Nat) : Int) = (pc k : Int) - 1 := by omega
            have c2 : ((ws.length - pc k : Nat) : Int) = (ws.length : Int) - (pc k : Int) := by omega
            rw [c1] at HF1
            rw [c2] at HF2
            clear c1 c2 HWV HWF HPB
            have hf1 := fac_le (n := pc k - 1) (by omega)
            have hf2 := fac_le (n := ws.length - pc k) (by omega)
            generalize ((fac (pc k - 1) : Nat) : Int) = f1 at *
            generalize ((fac (ws.length - pc k) : Nat) : Int) = f2 at *
            generalize sT win wf i k = s at *
            generalize pc k = p at *
            clear hf1 hf2
            have e1 : IntKind.i64.wrap (f1 * f2) = f1 * f2 := IntWalk.i64_in _ (by omega)
            have e2 : IntKind.i64.wrap (s + f1 * f2) = s + f1 * f2 := IntWalk.i64_in _ (by omega)
            have e3 : IntKind.i64.wrap ((p : Int) - 1) = (p : Int) - 1 := IntWalk.i64_in _ (by omega)
            have e4 : IntKind.i64.wrap ((ws.length : Int) - (p : Int)) = (ws.length : Int) - (p : Int) := IntWalk.i64_in _ (by omega)
            go_wp2_with fail
            refine (HSZ.out _).mono ?_
            rintro e w' ⟨rfl, rfl⟩
            go_wp2_with fail
            go_still_tail 16, (by kernel_rfl)
            still_call (HF1.out _)
            repeat still_step
            still_call (HF2.out _)
            repeat still_step
            refine wpStill_nil ?_
            go_wp2_with fail
            go_roundw
            case rel => exact ⟨i + 1, by omega, by go_num, HST.out.1, HON2.out.drewN 1⟩
            case measure => simp [intOf]; omega
          · have HK := Lib.hid (HSK.out (by rw [HSW.out, hwk, hwo2]; rfl))
            rw [hwk] at hck
            rw [hwo2] at hcq
            have HO2 := Lib.hid hown
            clear hown hon HSW hwk hwo2
            go_wp2_with fail
            go_roundw
            case rel => exact ⟨i + 1, by omega, by go_num, by rw [HK.out]; exact HO2.out, HON.out⟩
            case measure => simp [intOf]; omega
        · obtain rfl : i = ws.length := by omega
          rw [row_next] at hown
          have HO2 := Lib.hid hown
          have HON := Lib.hid hon
          clear hown hon
          go_wp2_with fail
          go_roundw
          case rel => exact ⟨k + 1, by omega, by go_num, HO2.out, HON.out⟩
          case measure => simp [intOf]; omega
    · obtain rfl : k = N := by omega
      have HF := Lib.hid (show intfns.Made (row win wf ws.length (2 ^ ws.length) 0) w (.returned (.slice (some ⟨w1.heap.size, 0, none⟩) ws.length ws.length)) wr from ⟨_, rfl, by rw [HN.out]; exact ((OwnI.of (by rw [row_length]; exact hown)).mono (by omega) (Nat.le_refl _)), HB2.out.trans ((hon.below (by omega)).mono (by omega))⟩)
      clear hown hon hwo
      go_wp2_with fail
      go_ret
      exact HF.out
end Go.Proofs.Ytplhcboecjegjaa.swing
