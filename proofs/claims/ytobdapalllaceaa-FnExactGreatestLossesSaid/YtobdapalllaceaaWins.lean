/- The walk of the model's list of the sets that win. -/
import Derived.Test.YtobdapalllaceaaOwnB
import Derived.Test.YtobdapalllaceaaVote
import Derived.Test.YtobdapalllaceaaBits8
import Derived.Deep.QuietTactic
import Derived.BigQuiet
namespace Go.Proofs.Ytobdapalllaceaa.wins
open Go.RowKit own pp nums ownb pv bitw mk
set_option linter.unusedVariables false
set_option linter.unusedSimpArgs false

/-- Whether a set of voters wins. -/
def winB (ws : List Int) (q : Int) (k : Nat) : Bool := decide (q ≤ pp.dot ws (bitsTo k ws.length))
theorem bits_nums (k n : Nat) : pp.numsB 1 (bitsTo k n) = true := by
  refine pp.all_true _ 0 _ (fun i hi => ?_)
  rw [bitsTo_length] at hi
  have e : (bitsTo k n).getD i 0 = ((k / 2 ^ i % 2 : Nat) : Int) := by simp [bitsTo, List.getD_eq_getElem?_getD, hi]
  rw [e, pp.inB_iff]
  omega
theorem bits_getD (k n i : Nat) (h : i < n) : (bitsTo k n).getD i 0 = ((k / 2 ^ i % 2 : Nat) : Int) := by simp [bitsTo, List.getD_eq_getElem?_getD, h]
theorem nums_small {ws : List Int} (h : range.numsR 0 20 ws = true) (k : Nat) : Small ws (bitsTo k ws.length) := by
  refine pp.small_of (A := 20) (B := 1) ?_ (bits_nums _ _) (by decide) (by rw [bitsTo_length]; exact Nat.le_refl _)
  refine pp.all_true _ 0 _ (fun i hi => ?_)
  have := range.numsR_at h i hi
  rw [pp.inB_iff]
  omega
set_option maxRecDepth 100000 in
set_option maxHeartbeats 4000000 in
theorem spec_wins (a : Option Addr) (ws : List Int) (c : Nat) (q : Int) (w : World) (hr : ints.Reads .i64 w a ws) (hn : ws.length ≤ 1048576) (h8 : ws.length ≤ 8) (hz : range.numsR 0 20 ws = true) :
    Calls Try.prog 127 #[.agg #[.slice a ws.length c, .int .i64 q]] w (MadeB (2 ^ ws.length) (winB ws q) w) := by
  obtain ⟨i0, hi, hz0, hz1, hz2⟩ := info_parts infoBool
  obtain ⟨hp1, hp2⟩ := bits8.pow8 h8
  have HSm := Lib.hid (fun k => nums_small hz k)
  have HZ := Lib.hid (fun j (hj : j < ws.length) => range.numsR_at hz j hj)
  have HW := Lib.hid (fun k => show winB ws q k = decide (q ≤ pp.dotTo ws (bitsTo k ws.length) ws.length) from rfl)
  have HR := Lib.hid hr
  obtain ⟨N, hN⟩ : ∃ N : Nat, 2 ^ ws.length = N := ⟨_, rfl⟩
  have h2 : (2 : Int) ^ ws.length = (N : Int) := by rw [← hN]; simp
  have HN := Lib.hid hN
  rw [hN] at hp1 hp2
  generalize winB ws q = win at *
  clear hN hr hz
  go_enter Try.func127, Try.ntmps127
  obtain ⟨w0, hw0⟩ : ∃ w0 : World, w0 = w.alloc (.cells #[.slice a ws.length c, .int .i64 q] 34) := ⟨_, rfl⟩
  have x0 : w0.cell? ⟨w.heap.size, 0, none⟩ = some (.slice a ws.length c) := by rw [hw0]; exact cell_new _ _ _ rfl rfl
  have x1 : w0.cell? ⟨w.heap.size, 1, none⟩ = some (.int .i64 q) := by rw [hw0]; exact cell_new _ _ _ rfl rfl
  have HB0 := Lib.hid (show Below w.heap.size w w0 by rw [hw0]; exact below_alloc w (.cells #[.slice a ws.length c, .int .i64 q] 34))
  have s0 : w0.heap.size = w.heap.size + 1 := by rw [hw0]; simp
  obtain ⟨w1, hw1⟩ : ∃ w1 : World, w1 = w0.alloc (.cells #[] 4) := ⟨_, rfl⟩
  have hown1 : w1.ownsRow w0.heap.size 4 1 (.slice (some ⟨w0.heap.size, 0, none⟩) 0 0) 0 (tf win 0) := by rw [hw1]; exact World.ownsRow_made (base := w0.heap.size) (e := 4) (size := 1) w0 #[] 0 (Nat.le_refl _) (by unfold maxLen; omega) rfl
  have hb1 : Below w0.heap.size w0 w1 := by rw [hw1]; exact below_alloc w0 (.cells #[] 4)
  rw [s0] at hown1
  go_wp2_with fail
  rw [← hw0, ← hw1]
  clear hw0 hw1
  go_loopw [3, 4] (fun v i wr => ∃ k : Nat, k ≤ N ∧ i = .int .i64 k ∧ wr.ownsRow (w.heap.size + 1) 4 1 v k (tf win k) ∧ Below w0.heap.size w0 wr) (fun _ i _ => N - (intOf i).toNat)
  case atStart => exact ⟨0, Nat.zero_le _, rfl, hown1, hb1⟩
  case round =>
    obtain ⟨k, hk, rfl, hown, hbel⟩ := hrel
    have HV := Lib.hid hown.lt
    have HBl := Lib.hid hbel
    have hsz := hbel.size
    have y0 := cell_below hbel x0 (by omega)
    have y1 := cell_below hbel x1 (by omega)
    clear hown1 hb1
    obtain ⟨wo, hwo⟩ : ∃ wo : World, wo = wr := ⟨_, rfl⟩
    by_cases hlt : k < N
    · have HO := Lib.hid hown
      have HTs := Lib.hid (tf_succ win k)
      rw [HW.out k] at HTs
      clear hown hbel
      go_wp2_with fail
      subst hwo
      clear h2
      go_loopw [5, 6] (fun s j wq => ∃ i : Nat, i ≤ ws.length ∧ j = .int .i64 i ∧ s = .int .i64 (dotTo ws (bitsTo k ws.length) i) ∧ ∃ m, wq = wo.drewN m) (fun _ j _ => ws.length - (intOf j).toNat)
      case atStart => exact ⟨0, Nat.zero_le _, rfl, rfl, 0, rfl⟩
      case round =>
        obtain ⟨i, hin, rfl, rfl, m, hwq⟩ := hrel
        have hbw : Below wo.heap.size wo wr := by rw [hwq]; exact ints.below_drewN (Below.refl _ _) m
        have z0 := cell_below hbw y0 (by omega)
        have z1 := cell_below hbw y1 (by omega)
        have HWQ := Lib.hid hwq
        by_cases hil : i < ws.length
        · obtain ⟨b, off, rfl, hbl, hc⟩ := (((HR.out.below HB0.out).below HBl.out).below hbw).at hil
          have hsm := HSm.out k i hil
          have hbd := dotTo_bd (HSm.out k) i hin
          have HD := Lib.hid (dotTo_succ ws (bitsTo k ws.length) i)
          have hbt := bits_getD k ws.length i hil
          rw [hbt] at HD hsm
          have hbit : Go.bits .and .i64 ((k : Int) / 2 ^ i) 1 = ((k / 2 ^ i % 2 : Nat) : Int) := bitn.dg_at k i (by omega)
          clear hbt hwq hbw
          generalize ((k / 2 ^ i % 2 : Nat) : Int) = x at *
          generalize ws.getD i 0 = s at *
          generalize dotTo ws (bitsTo k ws.length) i = D at *
          have e1 : IntKind.i64.wrap (s * x) = s * x := IntWalk.i64_in _ (by omega)
          have e2 : IntKind.i64.wrap (D + s * x) = D + s * x := IntWalk.i64_in _ (by omega)
          have i1 : (0 : Int) ≤ (i : Int) := by omega
          have i2 : (i : Int) < (ws.length : Int) := by omega
          go_wp2_with fail
          go_quiet (fail)
          clear e1 e2 hbit
          go_wp2_with fail
          go_roundw
          case rel => exact ⟨i + 1, by omega, by go_num, by rw [HD.out], _, by rw [HWQ.out, World.drewN_drewN]⟩
          case measure => simp [intOf]; omega
        · obtain rfl : i = ws.length := by omega
          have hoq : wr.ownsRow (w.heap.size + 1) 4 1 u3 k (tf win k) := by rw [hwq]; exact HO.out
          have HBq := Lib.hid (HBl.out.trans (hbw.mono hsz))
          have hzq : w0.heap.size ≤ wr.heap.size := HBq.out.size
          clear hwq hbw
          generalize dotTo ws (bitsTo k ws.length) ws.length = D at *
          go_wp2_with (at_builtin; refine wpList_append_own _ rfl _ _ 139 rfl (w.heap.size + 1) 4 i0 (.bool false) 1 1 Try.underlying139 hi hz0 hz1 hz2 rfl (by decide) _ _ _ rfl (hoq.alloc _) ⟨wr.heap.size, 0, none⟩ 1 1 [.bool (decide (q ≤ D))] rfl rfl (cell_one_new _ _ _) (by simp [Value.oneCell']) (by unfold maxLen; omega) (by omega) (by simp; omega) ?_; intro v' w2 hown' hgrow _)
          have HO2 := Lib.hid hown'
          have HB2 := Lib.hid ((HBq.out.alloc hzq _).grown hgrow (by simp; omega) (fun g e => by have := (HV.out g e).1; omega))
          clear hoq hown' hgrow
          go_wp2_with fail
          go_roundw
          case rel => exact ⟨k + 1, by omega, by go_num, by rw [HTs.out]; exact HO2.out, HB2.out⟩
          case measure => simp [intOf]; omega
    · obtain rfl : k = N := by omega
      have HF := Lib.hid (show MadeB (2 ^ ws.length) win w (.returned u3) wr from ⟨u3, rfl, (OwnB.of (by rw [HN.out]; exact hown)).mono (by omega) (Nat.le_refl _), HB0.out.trans (HBl.out.mono (by omega))⟩)
      clear hown hbel hwo
      go_wp2_with fail
      go_ret
      exact HF.out
end Go.Proofs.Ytobdapalllaceaa.wins
