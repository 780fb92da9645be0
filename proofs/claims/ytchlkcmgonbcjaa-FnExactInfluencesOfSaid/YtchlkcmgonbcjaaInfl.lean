/- The walks of the influences of bits: the model's and the program's. -/
import Derived.Test.YtchlkcmgonbcjaaMoves
import Derived.Test.YtchlkcmgonbcjaaMk
namespace Go.Proofs.Ytchlkcmgonbcjaa.infl
open Go.RowKit own pp nums range tab moves5
set_option linter.unusedVariables false
set_option linter.unusedSimpArgs false

open mk (mk_length mk_succ mk_congr pow4 fil fil_zero fil_all fil_succ fil_at)
/-- The influence of a bit. -/
def inf (zs : List Int) (i : Nat) : Int := ((upTo zs i zs.length : Nat) : Int) + ((dnTo zs i zs.length : Nat) : Int)
def infs (zs : List Int) (n : Nat) : List Int := mk.mk (inf zs) n
set_option maxHeartbeats 1000000 in
theorem spec_no (n : Int) (a : Option Addr) (zs : List Int) (c : Nat)  (w : World) (hr : ints.Reads .i64 w a zs) (hk : tab.tabB n zs = false) :
    Calls Try.prog 27 #[.int .i64 n, .slice a zs.length c] w (RetIB [] false w) := by
  have HT := Lib.hid (fun (wa : World) (hb : Below w.heap.size w wa) => tab.spec_tab n a zs c wa (hr.below hb) false (Lib.hid hk))
  clear hr hk
  go_enter Try.func27, Try.ntmps27
  go_wp2_with fail
  refine (HT.out _ (below_alloc w (.cells #[] 3))).mono ?_
  rintro e w' ⟨rfl, m, rfl⟩
  go_wp2_with fail
  go_ret2
  exact ⟨_, rfl, (own_empty _).mono (Nat.le_refl _) (by simp), ints.below_drewN (below_alloc w (.cells #[] 3)) _⟩
set_option maxRecDepth 100000 in
set_option maxHeartbeats 4000000 in
theorem spec_yes (n : Int) (a : Option Addr) (zs : List Int) (c : Nat) (w : World) (hr : ints.Reads .i64 w a zs) (hk : tab.tabB n zs = true) :
    Calls Try.prog 27 #[.int .i64 n, .slice a zs.length c] w (RetIB (infs zs n.toNat) true w) := by
  obtain ⟨i0, hi, hz0, hz1, hz2⟩ := info_parts mk.infoInt
  have HT := Lib.hid (fun (wa : World) (hb : Below w.heap.size w wa) => tab.spec_tab n a zs c wa (hr.below hb) true (Lib.hid hk))
  obtain ⟨m0, rfl, h4, hpw, h16, hrg⟩ := tab_nat hk
  have HK := Lib.hid hk
  have HR := Lib.hid hr
  clear hk hr hpw hrg
  rw [show ((m0 : Int).toNat) = m0 by omega]
  go_enter Try.func27, Try.ntmps27
  go_wp2_with fail
  refine (HT.out _ (below_alloc w (.cells #[] 3))).mono ?_
  rintro e w' ⟨rfl, m, rfl⟩
  go_wp2_with fail
  have HO0 := Lib.hid (show ((w.alloc (.cells #[] 3)).drewN m).ownsRow w.heap.size 3 1 (.slice (some ⟨w.heap.size, 0, none⟩) 0 0) 0 ((mk.mk (inf zs) 0).map (Value.int .i64)) from (own_empty w).1)
  have HB0 := Lib.hid (ints.below_drewN (below_alloc w (.cells #[] 3)) m)
  go_loopw [6, 7] (fun v i wr => ∃ (k : Nat), k ≤ m0 ∧ i = .int .i64 k ∧ wr.ownsRow w.heap.size 3 1 v k ((mk.mk (inf zs) k).map (Value.int .i64)) ∧ Below w.heap.size w wr) (fun _ i _ => m0 - (intOf i).toNat)
  case atStart => exact ⟨0, Nat.zero_le _, rfl, HO0.out, HB0.out⟩
  case round =>
    obtain ⟨k, hk, rfl, hown, hbel⟩ := hrel
    clear HO0 HB0
    have HV := Lib.hid hown.lt
    by_cases hlt : k < m0
    · have HSn := Lib.hid (mk_succ (inf zs) k)
      have hul := up_le zs k zs.length
      have hdl := dn_le zs k zs.length
      have HC := Lib.hid (spec_moves m0 k _ zs c wr (HR.out.below hbel) HK.out hlt)
      have HO := Lib.hid hown
      have HBl := Lib.hid hbel
      clear hown hbel
      go_wp2_with fail
      refine HC.out.mono ?_
      rintro e w' ⟨rfl, m', rfl⟩
      replace HO := Lib.hid (show (wr.drewN m').ownsRow w.heap.size 3 1 u6 k ((mk.mk (inf zs) k).map (Value.int .i64)) from HO.out)
      replace HBl := Lib.hid (ints.below_drewN HBl.out m')
      have hsz := HBl.out.size
      generalize wr.drewN m' = wz at *
      have HD := Lib.hid (show inf zs k = ((dnTo zs k zs.length : Nat) : Int) + ((upTo zs k zs.length : Nat) : Int) from Int.add_comm _ _)
      generalize upTo zs k zs.length = U at *
      generalize dnTo zs k zs.length = D at *
      go_wp2_with (at_builtin; refine wpList_append_own _ rfl _ _ 22 rfl w.heap.size 3 i0 (.int .i64 0) 1 8 Try.underlying22 hi hz0 hz1 hz2 rfl (by decide) _ _ _ rfl (HO.out.alloc _) ⟨wz.heap.size, 0, none⟩ 1 1 [.int .i64 ((D : Int) + (U : Int))] rfl rfl (cell_one_new _ _ _) (by simp [Value.oneCell']) (by unfold maxLen; omega) (by omega) (by simp; omega) ?_; intro v' w2 hown' hgrow _)
      obtain ⟨g', cap', hv'⟩ := ownsRow_succ hown'
      subst hv'
      have HO2 := Lib.hid hown'
      have HB2 := Lib.hid ((HBl.out.alloc hsz _).grown hgrow (by simp; omega) (fun g e => (HV.out g e).1))
      clear hown' hgrow
      go_wp2_with fail
      go_roundw
      case rel => exact ⟨k + 1, by omega, by go_num, by rw [HSn.out, List.map_append, HD.out]; exact HO2.out, HB2.out⟩
      case measure => simp [intOf]; omega
    · obtain rfl : k = m0 := by omega
      have HF1 := Lib.hid (show RetIB (infs zs k) true w (.returned (.tuple #[u6, .bool true])) wr from ⟨u6, rfl, OwnI.of (by unfold infs; rw [mk_length]; exact hown), hbel⟩)
      clear hown hbel
      go_wp2_with fail
      go_ret2
      exact HF1.out
set_option maxHeartbeats 1000000 in
theorem impl_no (n : Int) (a : Option Addr) (zs : List Int) (c : Nat)  (w : World) (hr : ints.Reads .i64 w a zs) (hk : tab.tabB n zs = false) :
    Calls Try.prog 28 #[.int .i64 n, .slice a zs.length c] w (RetIB [] false w) := by
  have HT := Lib.hid (fun (wa : World) (hb : Below w.heap.size w wa) => tab.impl_tab n a zs c wa (hr.below hb) false (Lib.hid hk))
  clear hr hk
  go_enter Try.func28, Try.ntmps28
  go_wp2_with fail
  refine (HT.out _ (Below.refl _ _)).mono ?_
  rintro e w' ⟨rfl, m, rfl⟩
  go_wp2_with fail
  go_ret2
  exact ret_empty (ints.below_drewN (Below.refl _ _) _)
set_option maxRecDepth 100000 in
set_option maxHeartbeats 4000000 in
theorem impl_yes (n : Int) (a : Option Addr) (zs : List Int) (c : Nat) (w : World) (hr : ints.Reads .i64 w a zs) (hk : tab.tabB n zs = true) :
    Calls Try.prog 28 #[.int .i64 n, .slice a zs.length c] w (RetIB (infs zs n.toNat) true w) := by
  obtain ⟨i0, hi, hz0, hz1, hz2⟩ := info_parts mk.infoInt
  have HT := Lib.hid (fun (wa : World) (hb : Below w.heap.size w wa) => tab.impl_tab n a zs c wa (hr.below hb) true (Lib.hid hk))
  obtain ⟨m0, rfl, h4, hpw, h16, hrg⟩ := tab_nat hk
  have HK := Lib.hid hk
  have HR := Lib.hid hr
  clear hk hr hpw hrg
  rw [show ((m0 : Int).toNat) = m0 by omega]
  go_enter Try.func28, Try.ntmps28
  go_wp2_with fail
  refine (HT.out _ (Below.refl _ _)).mono ?_
  rintro e w' ⟨rfl, m, rfl⟩
  obtain ⟨wp, hwp⟩ : ∃ wp : World, wp = w.drewN m := ⟨_, rfl⟩
  have HBp := Lib.hid (show Below w.heap.size w wp by rw [hwp]; exact ints.below_drewN (Below.refl _ _) m)
  have hsp := HBp.out.size
  rw [← hwp]
  clear hwp
  go_wp2_with (refine wpList_make_full _ rfl _ _ 22 rfl wp.heap.size 3 i0 (.int .i64 0) 1 Try.underlying22 hi hz0 hz1 .i64 .i64 _ _ m0 rfl rfl rfl rfl (by rw [hz2]; omega) (by unfold maxLen; omega) (Nat.le_refl _) ?_; intro w1 hown1 hgrow1; refine Hid.out ?_)
  refine Lib.hid ?_
  have HB1 := Lib.hid (show Below w.heap.size w w1 from HBp.out.trans (((Below.refl _ _).grown hgrow1 (Nat.le_refl _) (by simp)).mono hsp))
  rw [show (Value.int .i64 0).cells = #[Value.int .i64 0] from rfl, Nat.mul_one, toList_madeCells_one, ← fil_zero (inf zs)] at hown1
  have HO1 := Lib.hid hown1
  clear hgrow1 hown1
  go_wp2_with fail
  go_loopw [19] (fun i wr => ∃ k : Nat, k ≤ m0 ∧ i = .int .i64 k ∧ wr.ownsRow wp.heap.size 3 1 (.slice (some ⟨wp.heap.size, 0, none⟩) m0 m0) m0 (fil (inf zs) m0 k) ∧ Below w.heap.size w wr) (fun i _ => m0 - (intOf i).toNat)
  case atStart => exact ⟨0, Nat.zero_le _, rfl, HO1.out, HB1.out⟩
  case round =>
    obtain ⟨k, hk, rfl, hown, hbel⟩ := hrel
    clear HO1 HB1
    have HB := Lib.hid hbel
    clear hbel
    by_cases hlt : k < m0
    · have HC := Lib.hid (impl_moves m0 k _ zs c wr (HR.out.below HB.out) HK.out hlt)
      have hul := up_le zs k zs.length
      have hdl := dn_le zs k zs.length
      have hcell : wr.cell? ⟨wp.heap.size, k, none⟩ = some (.int .i64 0) := by rw [hown.cellAt k (by omega), fil_at _ m0 k hlt]
      have hfro := hown.frozenAt k
      have hst := hown.stored k (.int .i64 (inf zs k))
      rw [fil_succ (inf zs) m0 k hlt] at hst
      have HS := Lib.hid (show (wr.setCell ⟨wp.heap.size, k, none⟩ (.int .i64 (((upTo zs k zs.length : Nat) : Int) + ((dnTo zs k zs.length : Nat) : Int)))).ownsRow wp.heap.size 3 1 (.slice (some ⟨wp.heap.size, 0, none⟩) m0 m0) m0 (fil (inf zs) m0 (k + 1)) from hst.1)
      clear hst hown
      generalize upTo zs k zs.length = U at *
      generalize dnTo zs k zs.length = D at *
      go_wp2_with fail
      refine HC.out.mono ?_
      rintro e w' ⟨rfl, rfl⟩
      go_wp2_with fail
      go_roundw
      case rel => exact ⟨k + 1, by omega, by go_num, HS.out, HB.out.setCell hsp _⟩
      case measure => simp [intOf]; omega
    · obtain rfl : k = m0 := by omega
      rw [fil_all] at hown
      have HO := Lib.hid hown
      clear hown
      go_wp2_with fail
      go_ret2
      exact ⟨_, rfl, (OwnI.of (by unfold infs; rw [mk_length]; exact HO.out)).mono hsp (Nat.le_refl _), HB.out⟩
end Go.Proofs.Ytchlkcmgonbcjaa.infl
