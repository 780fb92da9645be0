/- The walks of the dual of a table: the model's and the program's. -/
import Derived.Test.YtchlkcmgonbcjaaTab
import Derived.Test.YtchlkcmgonbcjaaFrom
import Derived.Test.YtchlkcmgonbcjaaFill
namespace Go.Proofs.Ytchlkcmgonbcjaa.dualt
open Go.RowKit own pp nums range tab mk fill fromw
set_option linter.unusedVariables false
set_option linter.unusedSimpArgs false

/-- The dual of a table. -/
def du (zs : List Int) (k : Nat) : Int := 1 - zs.getD (zs.length - 1 - k) 0
def dualT (zs : List Int) : List Int := mk (du zs) zs.length
theorem ret_made {W w' : World} {v : Value} {zs : List Int} (ho : OwnI W.heap.size w'.heap.size w' v zs) (h : Below W.heap.size W w') : RetIB zs true W (.returned (.tuple #[v, .bool true])) w' := ⟨v, rfl, ho, h⟩
set_option maxHeartbeats 1000000 in
theorem spec_no (n : Int) (a : Option Addr) (zs : List Int) (c : Nat)  (w : World) (hr : ints.Reads .i64 w a zs) (hk : tab.tabB n zs = false) :
    Calls Try.prog 29 #[.int .i64 n, .slice a zs.length c] w (RetIB [] false w) := by
  have HT := Lib.hid (fun (wa : World) (hb : Below w.heap.size w wa) => tab.spec_tab n a zs c wa (hr.below hb) false (Lib.hid hk))
  clear hr hk
  go_enter Try.func29, Try.ntmps29
  go_wp2_with fail
  refine (HT.out _ (below_alloc w (.cells #[] 3))).mono ?_
  rintro e w' ⟨rfl, m, rfl⟩
  go_wp2_with fail
  go_ret2
  exact ⟨_, rfl, (own_empty _).mono (Nat.le_refl _) (by simp), ints.below_drewN (below_alloc w (.cells #[] 3)) _⟩
set_option maxRecDepth 100000 in
set_option maxHeartbeats 4000000 in
theorem spec_yes (n : Int) (a : Option Addr) (zs : List Int) (c : Nat) (w : World) (hr : ints.Reads .i64 w a zs) (hk : tab.tabB n zs = true) :
    Calls Try.prog 29 #[.int .i64 n, .slice a zs.length c] w (RetIB (dualT zs) true w) := by
  obtain ⟨i0, hi, hz0, hz1, hz2⟩ := info_parts mk.infoInt
  have HT := Lib.hid (fun (wa : World) (hb : Below w.heap.size w wa) => tab.spec_tab n a zs c wa (hr.below hb) true (Lib.hid hk))
  obtain ⟨m0, rfl, h4, hpw, h16, hrg⟩ := tab_nat hk
  have HA := Lib.hid (tab_at hk)
  have HR := Lib.hid hr
  clear hk hr hpw hrg
  go_enter Try.func29, Try.ntmps29
  go_wp2_with fail
  refine (HT.out _ (below_alloc w (.cells #[] 3))).mono ?_
  rintro e w' ⟨rfl, m, rfl⟩
  go_wp2_with fail
  have HO0 := Lib.hid (show ((w.alloc (.cells #[] 3)).drewN m).ownsRow w.heap.size 3 1 (.slice (some ⟨w.heap.size, 0, none⟩) 0 0) 0 ((mk (du zs) 0).map (Value.int .i64)) from (own_empty w).1)
  have HB0 := Lib.hid (ints.below_drewN (below_alloc w (.cells #[] 3)) m)
  go_loopw [6, 7] (fun v i wr => ∃ (k : Nat), k ≤ zs.length ∧ i = .int .i64 k ∧ wr.ownsRow w.heap.size 3 1 v k ((mk (du zs) k).map (Value.int .i64)) ∧ Below w.heap.size w wr) (fun _ i _ => zs.length - (intOf i).toNat)
  case atStart => exact ⟨0, Nat.zero_le _, rfl, HO0.out, HB0.out⟩
  case round =>
    obtain ⟨k, hk, rfl, hown, hbel⟩ := hrel
    have HV := Lib.hid hown.lt
    have HBl := Lib.hid hbel
    have hsz := hbel.size
    clear HO0 HB0
    by_cases hlt : k < zs.length
    · have HSn := Lib.hid (mk_succ (du zs) k)
      have HO := Lib.hid hown
      obtain ⟨j, hj⟩ : ∃ j : Nat, (zs.length : Int) - 1 - k = j := ⟨zs.length - 1 - k, by omega⟩
      have hj2 : j < zs.length := by omega
      have hx := HA.out j hj2
      have HD := Lib.hid (show du zs k = 1 - zs.getD j 0 by unfold du; rw [show zs.length - 1 - k = j by omega])
      obtain ⟨b, off, rfl, hb, hc⟩ := (HR.out.below hbel).at hj2
      have i1 : (0 : Int) ≤ (j : Int) := by omega
      have i2 : (j : Int) < (zs.length : Int) := by omega
      clear hown hbel
      generalize zs.getD j 0 = x at *
      have hx1 : 0 ≤ x := by omega
      have hx2 : x ≤ 1 := by omega
      clear hx
      go_wp2_with (at_builtin; refine wpList_append_own _ rfl _ _ 22 rfl w.heap.size 3 i0 (.int .i64 0) 1 8 Try.underlying22 hi hz0 hz1 hz2 rfl (by decide) _ _ _ rfl (HO.out.alloc _) ⟨wr.heap.size, 0, none⟩ 1 1 [.int .i64 (1 - x)] rfl rfl (cell_one_new _ _ _) (by simp [Value.oneCell']) (by unfold maxLen; omega) (by omega) (by simp; omega) ?_; intro v' w2 hown' hgrow _)
      obtain ⟨g', cap', hv'⟩ := ownsRow_succ hown'
      subst hv'
      have HO2 := Lib.hid hown'
      have HB2 := Lib.hid ((HBl.out.alloc hsz _).grown hgrow (by simp; omega) (fun g e => (HV.out g e).1))
      clear hown' hgrow
      go_wp2_with fail
      go_roundw
      case rel => exact ⟨k + 1, by omega, by go_num, by rw [HSn.out, List.map_append, HD.out]; exact HO2.out, HB2.out⟩
      case measure => simp [intOf]; omega
    · obtain rfl : k = zs.length := by omega
      have HF1 := Lib.hid (show RetIB (dualT zs) true w (.returned (.tuple #[u6, .bool true])) wr from ⟨u6, rfl, OwnI.of (by unfold dualT; rw [mk_length]; exact hown), HBl.out⟩)
      clear hown hbel
      go_wp2_with fail
      go_ret2
      exact HF1.out
set_option maxHeartbeats 1000000 in
theorem dual_at (k : Nat) (L : Nat) (b : Nat) (w : World) (hc : w.cell? ⟨b, 0, none⟩ = some (.int .i64 ((L : Int) - 1))) (hk : k < L) (hL : L ≤ 16) :
    Calls Try.prog 55 #[.int .i64 k, .pointer (some ⟨b, 0, none⟩)] w (fun e w' => e = .returned (.int .i64 ((L - 1 - k : Nat) : Int)) ∧ ∃ m, w' = w.drewN m) := by
  have e1 : ((L - 1 - k : Nat) : Int) = (L : Int) - 1 - k := by omega
  rw [e1]
  clear e1
  go_enter Try.func55, Try.ntmps55
  go_wp2_with fail
  go_ret
  exact ⟨rfl, 0, rfl⟩
set_option maxHeartbeats 1000000 in
theorem impl_no (n : Int) (a : Option Addr) (zs : List Int) (c : Nat)  (w : World) (hr : ints.Reads .i64 w a zs) (hk : tab.tabB n zs = false) :
    Calls Try.prog 30 #[.int .i64 n, .slice a zs.length c] w (RetIB [] false w) := by
  have HT := Lib.hid (fun (wa : World) (hb : Below w.heap.size w wa) => tab.impl_tab n a zs c wa (hr.below hb) false (Lib.hid hk))
  clear hr hk
  go_enter Try.func30, Try.ntmps30
  go_wp2_with fail
  refine (HT.out _ (Below.refl _ _)).mono ?_
  rintro e w' ⟨rfl, m, rfl⟩
  go_wp2_with fail
  go_ret2
  exact ret_empty (ints.below_drewN (Below.refl _ _) _)
set_option maxRecDepth 100000 in
set_option maxHeartbeats 4000000 in
theorem impl_yes (n : Int) (a : Option Addr) (zs : List Int) (c : Nat) (w : World) (hr : ints.Reads .i64 w a zs) (hk : tab.tabB n zs = true) :
    Calls Try.prog 30 #[.int .i64 n, .slice a zs.length c] w (RetIB (dualT zs) true w) := by
  obtain ⟨i0, hi, hz0, hz1, hz2⟩ := info_parts mk.infoInt
  have HT := Lib.hid (fun (wa : World) (hb : Below w.heap.size w wa) => tab.impl_tab n a zs c wa (hr.below hb) true (Lib.hid hk))
  obtain ⟨m0, rfl, h4, hpw, h16, hrg⟩ := tab_nat hk
  have HA := Lib.hid (tab_at hk)
  have HR := Lib.hid hr
  have hp1 := (pow4 h4).1
  have HL := Lib.hid hpw
  have hL1 : 1 ≤ zs.length := by omega
  clear hk hr hrg hpw hp1
  go_enter Try.func30, Try.ntmps30
  go_wp2_with fail
  refine (HT.out _ (Below.refl _ _)).mono ?_
  rintro e w' ⟨rfl, m, rfl⟩
  obtain ⟨wp, hwp⟩ : ∃ wp : World, wp = w.drewN m := ⟨_, rfl⟩
  have HBp := Lib.hid (show Below w.heap.size w wp by rw [hwp]; exact ints.below_drewN (Below.refl _ _) m)
  rw [← hwp]
  clear hwp
  have xf : (wp.alloc (.cells #[.int .i64 0] 3)).frozen? ⟨wp.heap.size, 0, none⟩ = false := fro_new _ _ _ rfl
  have xc : (wp.alloc (.cells #[.int .i64 0] 3)).cell? ⟨wp.heap.size, 0, none⟩ = some (.int .i64 0) := cell_new _ _ _ rfl rfl
  go_wp2_with fail
  have hcl : (wp.alloc (.cells #[.int .i64 ((zs.length : Int) - 1)] 3)).cell? ⟨wp.heap.size, 0, none⟩ = some (.int .i64 ((zs.length : Int) - 1)) := cell_new _ _ _ rfl rfl
  have HBq := Lib.hid (HBp.out.alloc HBp.out.size (.cells #[.int .i64 ((zs.length : Int) - 1)] 3))
  have hsq : wp.heap.size < (wp.alloc (.cells #[.int .i64 ((zs.length : Int) - 1)] 3)).heap.size := by simp
  generalize wp.alloc (.cells #[.int .i64 ((zs.length : Int) - 1)] 3) = wq at *
  refine (from_DualTable m0 h4 a zs c (.pointer (some ⟨wp.heap.size, 0, none⟩)) (fun k => zs.length - 1 - k) wq (HR.out.below HBq.out) (Lib.hid (fun k _ => by omega)) (by omega) (Lib.hid (fun k wr hk hb => dual_at k zs.length _ wr (cell_below hb hcl hsq) (by have := HL.out; omega) h16))).mono ?_
  rintro e w3 ⟨v, rfl, hov, hb3⟩
  rw [← HL.out] at hov
  have hlen : (mk (fun k => zs.getD (zs.length - 1 - k) 0) zs.length).length = zs.length := mk_length _ _
  have HE := Lib.hid (fun k (hk : k < zs.length) => mk_getD (fun k => zs.getD (zs.length - 1 - k) 0) zs.length k hk)
  generalize mk (fun k => zs.getD (zs.length - 1 - k) 0) zs.length = ss at *
  have HS := Lib.hid hlen
  have hsq2 := HBq.out.size
  have ho := hov.1
  obtain ⟨g, cap, hv⟩ : ∃ g cap, v = .slice (some ⟨g, 0, none⟩) ss.length cap := by
    rcases ho.2 with ⟨rfl, h0⟩ | ⟨g, cap, cur, rfl, _⟩
    · omega
    · exact ⟨g, cap, rfl⟩
  have hg : w.heap.size ≤ g := by have := (hov.lt (g := g) (by rw [hv]; rfl)).1; omega
  subst hv
  have HO0 := Lib.hid (show w3.ownsRow w.heap.size 3 1 (.slice (some ⟨g, 0, none⟩) zs.length cap) zs.length ((pf (du zs) ss 0).map (Value.int .i64)) by rw [pf_zero]; rw [HS.out] at ho; exact ownsRow_base ho (fun g' e => by simp [Value.ownBlock] at e; omega))
  have HB0 := Lib.hid (HBq.out.trans (hb3.mono hsq2))
  rw [hlen]
  clear hlen ho hov hb3 hcl HBq hsq xf xc
  go_wp2_with fail
  go_loopw [23] (fun i wr => ∃ k : Nat, k ≤ zs.length ∧ i = .int .i64 k ∧ wr.ownsRow w.heap.size 3 1 (.slice (some ⟨g, 0, none⟩) zs.length cap) zs.length ((pf (du zs) ss k).map (Value.int .i64)) ∧ Below w.heap.size w wr) (fun i _ => zs.length - (intOf i).toNat)
  case atStart => exact ⟨0, Nat.zero_le _, rfl, HO0.out, HB0.out⟩
  case round =>
    obtain ⟨k, hk, rfl, hown, hbel⟩ := hrel
    clear HO0 HB0
    have HBl := Lib.hid hbel
    have hsz := hbel.size
    clear hbel
    by_cases hlt : k < zs.length
    · have hx := HA.out (zs.length - 1 - k) (by omega)
      have hcell := pf_cellN HS.out hown hlt
      rw [HE.out k hlt] at hcell
      have hfro := hown.frozenAt k
      have HST := Lib.hid (pf_storeN HS.out hown hlt (1 - zs.getD (zs.length - 1 - k) 0) rfl)
      have hgl : g < wr.heap.size := (hown.lt g rfl).2
      clear hown
      generalize zs.getD (zs.length - 1 - k) 0 = x at *
      have hx1 : 0 ≤ x := by omega
      have hx2 : x ≤ 1 := by omega
      clear hx
      go_wp2_with fail
      go_roundw
      case rel => exact ⟨k + 1, by omega, by go_num, HST.out, HBl.out.setCell hg _⟩
      case measure => simp [intOf]; omega
    · obtain rfl : k = zs.length := by omega
      have HF1 := Lib.hid (show RetIB (dualT zs) true w (.returned (.tuple #[.slice (some ⟨g, 0, none⟩) zs.length cap, .bool true])) wr from ⟨_, rfl, OwnI.of (by unfold dualT; rw [mk_length]; have e := pf_all (du zs) ss; rw [HS.out] at e; unfold mk.mk; rw [← e]; exact hown), HBl.out⟩)
      clear hown
      go_wp2_with fail
      go_ret2
      exact HF1.out
end Go.Proofs.Ytchlkcmgonbcjaa.dualt
