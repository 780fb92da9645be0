/- The walks of the model's and the program's lists times -1, and of what is a plane. -/
import Derived.Test.YtoephhhofkmgjaaPlanes
import Derived.Test.YtoephhhofkmgjaaIntFns
import Derived.OwnWalk
import Derived.RangeFuncBox
namespace Go.Proofs.Ytoephhhofkmgjaa.minus
open Go.RowKit own pp nums planes
set_option linter.unusedVariables false

theorem infoInt : (Try.prog.info? 3).map (fun i => (i.zero, i.size, i.bytes)) = some (some (.int .i64 0), 1, 8) := by kernel_rfl
def neg (zs : List Int) : List Int := zs.map fun z => -z
theorem neg_length (zs : List Int) : (neg zs).length = zs.length := by simp [neg]
theorem neg_take_succ (zs : List Int) (k : Nat) (h : k < zs.length) : neg (zs.take (k + 1)) = neg (zs.take k) ++ [-(zs.getD k 0)] := by
  unfold neg
  rw [List.take_succ_eq_append_getElem h, List.map_append, List.getD_eq_getElem?_getD, List.getElem?_eq_getElem h]; rfl

set_option maxRecDepth 100000 in
set_option maxHeartbeats 1000000 in
theorem spec_minus (a : Option Addr) (zs : List Int) (c : Nat) (w : World) (hr : ints.Reads .i64 w a zs) (hn : zs.length ≤ 1048576) (hz : numsB 1000 zs = true) :
    Calls Try.prog 119 #[.slice a zs.length c] w (intfns.Made (neg zs) w) := by
  obtain ⟨i0, hi, hz0, hz1, hz2⟩ := info_parts infoInt
  have HZ := Lib.hid hz
  clear hz
  go_enter Try.func119, Try.ntmps119
  go_wp2_with fail
  have hown0 := (own_empty w).1
  have hb0 := below_alloc w (.cells #[] 3)
  go_loopw [3, 4] (fun v i wr => ∃ (k : Nat), k ≤ zs.length ∧ i = .int .i64 k ∧ wr.ownsRow w.heap.size 3 1 v k ((neg (zs.take k)).map (Value.int .i64)) ∧ Below w.heap.size w wr) (fun _ i _ => zs.length - (intOf i).toNat)
  case atStart => exact ⟨0, Nat.zero_le _, rfl, hown0, hb0⟩
  case round =>
    obtain ⟨k, hk, rfl, hown, hbel⟩ := hrel
    have hvb := hown.lt
    have HV := Lib.hid hvb
    have HBl := Lib.hid hbel
    have hsz := hbel.size
    clear hown0 hb0 hvb
    by_cases hlt : k < zs.length
    · obtain ⟨b, off, rfl, hb, hc⟩ := (hr.below hbel).at hlt
      have HSn := Lib.hid (neg_take_succ zs k hlt)
      have hbd := numsB_at HZ.out k hlt
      have HO := Lib.hid hown
      clear hown hbel
      generalize zs.getD k 0 = x at *
      have i1 : (0 : Int) ≤ (k : Int) := by omega
      have i2 : (k : Int) < (zs.length : Int) := by omega
      go_wp2_with (at_builtin; refine wpList_append_own _ rfl _ _ 33 rfl w.heap.size 3 i0 (.int .i64 0) 1 8 Try.underlying33 hi hz0 hz1 hz2 rfl (by decide) _ _ _ rfl (HO.out.alloc _) ⟨wr.heap.size, 0, none⟩ 1 1 [.int .i64 (-x)] rfl rfl (cell_one_new _ _ _) (by simp [Value.oneCell']) (by unfold maxLen; omega) (by omega) (by simp; omega) ?_; intro v' w2 hown' hgrow _)
      obtain ⟨g', cap', hv'⟩ := ownsRow_succ hown'
      subst hv'
      have HO2 := Lib.hid hown'
      have HB2 := Lib.hid ((HBl.out.alloc hsz _).grown hgrow (by simp; omega) (fun g e => (HV.out g e).1))
      clear hown' hgrow
      go_wp2_with fail
      go_roundw
      case rel => exact ⟨k + 1, by omega, by go_num, by rw [HSn.out, List.map_append]; exact HO2.out, HB2.out⟩
      case measure => simp [intOf]; omega
    · have hk2 : k = zs.length := by omega
      have HF1 := Lib.hid (show intfns.Made (neg zs) w (.returned u3) wr from ⟨u3, rfl, OwnI.of (by rw [neg_length]; rw [hk2, List.take_length] at hown; exact hown), HBl.out⟩)
      clear hown hbel hk2
      go_wp2_with fail
      go_ret
      exact HF1.out
/-- The first k of the numbers, then zeros. -/
def filled (zs : List Int) (k : Nat) : List Value := (neg (zs.take k)).map (Value.int .i64) ++ List.replicate (zs.length - k) (.int .i64 0)
theorem filled_zero (zs : List Int) : filled zs 0 = List.replicate zs.length (.int .i64 0) := by simp [filled, neg]
theorem filled_all (zs : List Int) : filled zs zs.length = (neg zs).map (Value.int .i64) := by simp [filled]
theorem filled_succ (zs : List Int) (k : Nat) (h : k < zs.length) : (filled zs k).set k (.int .i64 (-(zs.getD k 0))) = filled zs (k + 1) := by
  unfold filled
  rw [List.set_append, if_neg (by simp [neg]; omega), show zs.length - k = (zs.length - (k + 1)) + 1 by omega, List.replicate_succ, List.length_map, neg_length, show k - (zs.take k).length = 0 by simp; omega, List.set_cons_zero, neg_take_succ zs k h, List.map_append, List.append_assoc]
  rfl
theorem filled_at (zs : List Int) (k : Nat) (h : k < zs.length) : (filled zs k)[k]? = some (.int .i64 0) := by
  unfold filled
  rw [List.getElem?_append_right (by simp [neg]; omega), List.getElem?_replicate, if_pos (by simp [neg]; omega)]

set_option maxRecDepth 100000 in
set_option maxHeartbeats 1000000 in
theorem impl_minus (a : Option Addr) (zs : List Int) (c : Nat) (w : World) (hr : ints.Reads .i64 w a zs) (hn : zs.length ≤ 1048576) (hz : numsB 1000 zs = true) :
    Calls Try.prog 121 #[.slice a zs.length c] w (intfns.Made (neg zs) w) := by
  obtain ⟨i0, hi, hz0, hz1, hz2⟩ := info_parts infoInt
  have HZ := Lib.hid hz
  clear hz
  go_enter Try.func121, Try.ntmps121
  go_wp2_with (refine wpList_make_full _ rfl _ _ 33 rfl w.heap.size 3 i0 (.int .i64 0) 1 Try.underlying33 hi hz0 hz1 .i64 .i64 _ _ zs.length rfl rfl rfl rfl (by rw [hz2]; omega) (by unfold maxLen; omega) (Nat.le_refl _) ?_; intro w1 hown1 hgrow1; refine Hid.out ?_)
  refine Lib.hid ?_
  have hb1 : Below w.heap.size w w1 := (Below.refl _ _).grown hgrow1 (Nat.le_refl _) (by simp)
  rw [show (Value.int .i64 0).cells = #[Value.int .i64 0] from rfl, Nat.mul_one, toList_madeCells_one, ← filled_zero] at hown1
  go_wp2_with fail
  go_loopw [11] (fun i wr => ∃ k : Nat, k ≤ zs.length ∧ i = .int .i64 k ∧ wr.ownsRow w.heap.size 3 1 (.slice (some ⟨w.heap.size, 0, none⟩) zs.length zs.length) zs.length (filled zs k) ∧ Below w.heap.size w wr) (fun i _ => zs.length - (intOf i).toNat)
  case atStart => exact ⟨0, Nat.zero_le _, rfl, hown1, hb1⟩
  case round =>
    obtain ⟨k, hk, rfl, hown, hbel⟩ := hrel
    clear hown1 hgrow1 hb1
    have HB := Lib.hid hbel
    by_cases hlt : k < zs.length
    · obtain ⟨b, off, rfl, hb, hc⟩ := (hr.below hbel).at hlt
      have hcell : wr.cell? ⟨w.heap.size, k, none⟩ = some (.int .i64 0) := by rw [hown.cellAt k (by omega), filled_at zs k hlt]
      have hfro := hown.frozenAt k
      have hst := hown.stored k (.int .i64 (-(zs.getD k 0)))
      rw [filled_succ zs k hlt] at hst
      have HS := Lib.hid hst
      have hbd := numsB_at HZ.out k hlt
      clear hst hown hbel
      generalize zs.getD k 0 = x at *
      have i1 : (0 : Int) ≤ (k : Int) := by omega
      have i2 : (k : Int) < (zs.length : Int) := by omega
      go_wp2_with fail
      go_roundw
      case rel => exact ⟨k + 1, by omega, by go_num, HS.out.1, HB.out.setCell (Nat.le_refl _) _⟩
      case measure => simp [intOf]; omega
    · obtain rfl : k = zs.length := by omega
      rw [filled_all] at hown
      have HO := Lib.hid hown
      clear hown hbel
      go_wp2_with fail
      go_ret
      exact ⟨_, rfl, OwnI.of (by rw [neg_length]; exact HO.out), HB.out⟩
end Go.Proofs.Ytoephhhofkmgjaa.minus
