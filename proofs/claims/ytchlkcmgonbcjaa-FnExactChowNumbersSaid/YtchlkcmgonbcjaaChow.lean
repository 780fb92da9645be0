/- The walks of the Chow numbers: the model's and the program's. -/
import Derived.Test.YtchlkcmgonbcjaaTab
import Derived.Test.YtchlkcmgonbcjaaDig
import Derived.Test.YtchlkcmgonbcjaaPlIn
import Derived.Test.YtchlkcmgonbcjaaMost
import Derived.Test.YtchlkcmgonbcjaaFill
import Derived.BigQuiet
import Derived.StillTailTactics
namespace Go.Proofs.Ytchlkcmgonbcjaa.chow
open Go.RowKit own pp nums range tab bitw dig plin most fill
set_option linter.unusedVariables false
set_option linter.unusedSimpArgs false

open mk (mk_length mk_succ mk_congr mk_getD)
/-- 1 at place 0, behind it the digits. -/
def dg (k : Nat) : Nat → Nat
  | 0 => 1
  | i + 1 => k / 2 ^ i % 2
theorem dg_le (k j : Nat) : dg k j ≤ 1 := by
  cases j with
  | zero => exact Nat.le_refl _
  | succ i => show k / 2 ^ i % 2 ≤ 1; omega
/-- The sums over the first k places. -/
def cn (zs : List Int) (j : Nat) : Nat → Int
  | 0 => 0
  | k + 1 => cn zs j k + zs.getD k 0 * (dg k j : Int)
theorem cn_succ (zs : List Int) (j k : Nat) : cn zs j (k + 1) = cn zs j k + zs.getD k 0 * (dg k j : Int) := rfl
theorem cn_bd {zs : List Int} (h : ∀ k, k < zs.length → zs.getD k 0 = 0 ∨ zs.getD k 0 = 1) (j k : Nat) (hk : k ≤ zs.length) : 0 ≤ cn zs j k ∧ cn zs j k ≤ k := by
  induction k with
  | zero => exact ⟨Int.le_refl _, Int.le_refl _⟩
  | succ k ih =>
    have h1 := ih (by omega)
    have h2 := dg_le k j
    rw [cn_succ]
    rcases h k (by omega) with e | e <;> rw [e] <;> omega
def ro (zs : List Int) (n k : Nat) : List Int := mk.mk (fun j => cn zs j k) (n + 1)
theorem ro_length (zs : List Int) (n k : Nat) : (ro zs n k).length = n + 1 := mk_length _ _
theorem ro_getD (zs : List Int) (n k j : Nat) (h : j < n + 1) : (ro zs n k).getD j 0 = cn zs j k := mk_getD _ _ _ h
theorem ro_zero (zs : List Int) (n : Nat) : ro zs n 0 = List.replicate (n + 1) 0 := by
  apply List.ext_getElem (by simp [ro, mk_length])
  intro i h1 h2
  simp [ro, mk.mk, cn]
theorem ro_all (zs : List Int) (n k : Nat) : pf (fun j => cn zs j (k + 1)) (ro zs n k) (n + 1) = ro zs n (k + 1) := by
  have := pf_all (fun j => cn zs j (k + 1)) (ro zs n k)
  rw [ro_length] at this
  exact this
/-- The sums over the first r of some places. -/
def cs (ps : List Int) (j : Nat) : Nat → Int
  | 0 => 0
  | r + 1 => cs ps j r + (dg (ps.getD r 0).toNat j : Int)
theorem cs_succ (ps : List Int) (j r : Nat) : cs ps j (r + 1) = cs ps j r + (dg (ps.getD r 0).toNat j : Int) := rfl
theorem cs_bd (ps : List Int) (j r : Nat) : 0 ≤ cs ps j r ∧ cs ps j r ≤ r := by
  induction r with
  | zero => exact ⟨Int.le_refl _, Int.le_refl _⟩
  | succ r ih =>
    have h2 := dg_le (ps.getD r 0).toNat j
    rw [cs_succ]
    omega
theorem cs_snoc (ps : List Int) (x : Int) (j r : Nat) (h : r ≤ ps.length) : cs (ps ++ [x]) j r = cs ps j r := by
  induction r with
  | zero => rfl
  | succ r ih =>
    rw [cs_succ, cs_succ, ih (by omega), List.getD_eq_getElem?_getD, List.getElem?_append_left (by omega), ← List.getD_eq_getElem?_getD]
theorem cs_cn {zs : List Int} (h : ∀ k, k < zs.length → zs.getD k 0 = 0 ∨ zs.getD k 0 = 1) (j k : Nat) (hk : k ≤ zs.length) : cs (placesTo (fun k => decide (0 < zs.getD k 0)) k) j (placesTo (fun k => decide (0 < zs.getD k 0)) k).length = cn zs j k := by
  induction k with
  | zero => rfl
  | succ k ih =>
    have h1 := ih (by omega)
    rcases h k (by omega) with e | e
    · rw [placesTo_miss _ _ (by simp only [e]; decide), h1, cn_succ, e]; simp
    · rw [placesTo_hit _ _ (by simp only [e]; decide), List.length_append]
      show cs _ j ((placesTo _ k).length + 1) = _
      rw [cs_succ, cs_snoc _ _ _ _ (Nat.le_refl _), h1, cn_succ, e, List.getD_eq_getElem?_getD, List.getElem?_append_right (Nat.le_refl _)]
      simp
def rs (ps : List Int) (n r : Nat) : List Int := mk.mk (fun j => cs ps j r) (n + 1)
theorem rs_length (ps : List Int) (n k : Nat) : (rs ps n k).length = n + 1 := mk_length _ _
theorem rs_getD (ps : List Int) (n k j : Nat) (h : j < n + 1) : (rs ps n k).getD j 0 = cs ps j k := mk_getD _ _ _ h
theorem rs_zero (ps : List Int) (n : Nat) : rs ps n 0 = List.replicate (n + 1) 0 := by
  apply List.ext_getElem (by simp [rs, mk_length])
  intro i h1 h2
  simp [rs, mk.mk, cs]
theorem rs_all (ps : List Int) (n k : Nat) : pf (fun j => cs ps j (k + 1)) (rs ps n k) (n + 1) = rs ps n (k + 1) := by
  have := pf_all (fun j => cs ps j (k + 1)) (rs ps n k)
  rw [rs_length] at this
  exact this
theorem placesTo_mem (p : Nat → Bool) (k : Nat) (i : Nat) (hi : i < (placesTo p k).length) : ∃ q : Nat, (placesTo p k).getD i 0 = (q : Int) ∧ q < k := by
  have hm : (placesTo p k)[i] ∈ placesTo p k := List.getElem_mem hi
  unfold placesTo at hm
  rw [List.mem_map] at hm
  obtain ⟨q, hq, e⟩ := hm
  refine ⟨q, ?_, List.mem_range.1 (List.mem_filter.1 hq).1⟩
  rw [List.getD_eq_getElem?_getD, List.getElem?_eq_getElem hi]
  exact e.symm
def chow (zs : List Int) (n : Nat) : List Int := ro zs n zs.length
set_option maxRecDepth 100000 in
set_option maxHeartbeats 4000000 in
theorem spec_no (n : Int) (a : Option Addr) (zs : List Int) (c : Nat) (w : World) (hr : ints.Reads .i64 w a zs) (hk : tab.tabB n zs = false) :
    Calls Try.prog 21 #[.int .i64 n, .slice a zs.length c] w (RetIB [] false w) := by
  obtain ⟨i0, hi, hz0, hz1, hz2⟩ := info_parts mk.infoInt
  have HT := Lib.hid (fun (wa : World) (hb : Below w.heap.size w wa) => tab.spec_tab n a zs c wa (hr.below hb) false (Lib.hid hk))
  obtain ⟨L, hL, hL4⟩ : ∃ L : Nat, max 0 (min n 4) = (L : Int) ∧ L ≤ 4 := ⟨(max 0 (min n 4)).toNat, by omega, by omega⟩
  clear hr hk
  go_enter Try.func21, Try.ntmps21
  go_wp2_with fail
  refine (least_any _ _ _).mono ?_
  rintro e w' ⟨rfl, hww⟩
  rw [hww]
  clear hww
  go_wp2_with fail
  refine (most_any _ _ _).mono ?_
  rintro e w' ⟨rfl, hww⟩
  rw [hww]
  clear hww
  rw [hL]
  go_wp2_with (refine wpList_make_full _ rfl _ _ 22 rfl w.heap.size 3 i0 (.int .i64 0) 1 Try.underlying22 hi hz0 hz1 .i64 .i64 _ _ (L + 1) rfl rfl rfl rfl (by rw [hz2]; omega) (by unfold maxLen; omega) (Nat.le_refl _) ?_; intro w1 hown1 hgrow1; refine Hid.out ?_)
  refine Lib.hid ?_
  have HB1 := Lib.hid (show Below w.heap.size w w1 from ((Below.refl _ _).grown hgrow1 (Nat.le_refl _) (by simp)))
  have HO1 := Lib.hid hown1
  clear hgrow1 hown1
  go_wp2_with fail
  refine (HT.out _ HB1.out).mono ?_
  rintro e w' ⟨rfl, m, rfl⟩
  go_wp2_with fail
  go_ret2
  exact ret_empty (ints.below_drewN HB1.out _)
set_option maxRecDepth 100000 in
set_option maxHeartbeats 4000000 in
theorem spec_yes (n : Int) (a : Option Addr) (zs : List Int) (c : Nat) (w : World) (hr : ints.Reads .i64 w a zs) (hk : tab.tabB n zs = true) :
    Calls Try.prog 21 #[.int .i64 n, .slice a zs.length c] w (RetIB (chow zs n.toNat) true w) := by
  obtain ⟨i0, hi, hz0, hz1, hz2⟩ := info_parts mk.infoInt
  have HT := Lib.hid (fun (wa : World) (hb : Below w.heap.size w wa) => tab.spec_tab n a zs c wa (hr.below hb) true (Lib.hid hk))
  have HA := Lib.hid (tab_at hk)
  obtain ⟨m0, rfl, h4, hpw, h16, hrg⟩ := tab_nat hk
  rw [show ((m0 : Int).toNat) = m0 by omega]
  have HR := Lib.hid hr
  obtain ⟨L, hL, hL4⟩ : ∃ L : Nat, max 0 (min (m0 : Int) 4) = (L : Int) ∧ L = m0 := ⟨(max 0 (min (m0 : Int) 4)).toNat, by omega, by omega⟩
  subst hL4
  clear hk hr hpw hrg
  go_enter Try.func21, Try.ntmps21
  go_wp2_with fail
  refine (least_any _ _ _).mono ?_
  rintro e w' ⟨rfl, hww⟩
  rw [hww]
  clear hww
  go_wp2_with fail
  refine (most_any _ _ _).mono ?_
  rintro e w' ⟨rfl, hww⟩
  rw [hww]
  clear hww
  rw [hL]
  go_wp2_with (refine wpList_make_full _ rfl _ _ 22 rfl w.heap.size 3 i0 (.int .i64 0) 1 Try.underlying22 hi hz0 hz1 .i64 .i64 _ _ (L + 1) rfl rfl rfl rfl (by rw [hz2]; omega) (by unfold maxLen; omega) (Nat.le_refl _) ?_; intro w1 hown1 hgrow1; refine Hid.out ?_)
  refine Lib.hid ?_
  have HB1 := Lib.hid (show Below w.heap.size w w1 from ((Below.refl _ _).grown hgrow1 (Nat.le_refl _) (by simp)))
  have HO1 := Lib.hid hown1
  clear hgrow1 hown1
  go_wp2_with fail
  rw [show (Value.int .i64 0).cells = #[Value.int .i64 0] from rfl, Nat.mul_one, toList_madeCells_one, show List.replicate (L + 1) (Value.int .i64 0) = (ro zs L 0).map (Value.int .i64) by rw [ro_zero, List.map_replicate]] at HO1
  refine (HT.out _ HB1.out).mono ?_
  rintro e w' ⟨rfl, m, rfl⟩
  replace HO1 := Lib.hid (show (w1.drewN m).ownsRow w.heap.size 3 1 (.slice (some ⟨w.heap.size, 0, none⟩) (L + 1) (L + 1)) (L + 1) ((ro zs L 0).map (Value.int .i64)) from HO1.out)
  replace HB1 := Lib.hid (show Below w.heap.size w (w1.drewN m) from ints.below_drewN HB1.out m)
  generalize w1.drewN m = wp at *
  go_wp2_with fail
  go_loopw [7] (fun i wr => ∃ k : Nat, k ≤ zs.length ∧ i = .int .i64 k ∧ wr.ownsRow w.heap.size 3 1 (.slice (some ⟨w.heap.size, 0, none⟩) (L + 1) (L + 1)) (L + 1) ((ro zs L k).map (Value.int .i64)) ∧ Below w.heap.size w wr) (fun i _ => zs.length - (intOf i).toNat)
  case atStart => exact ⟨0, Nat.zero_le _, rfl, HO1.out, HB1.out⟩
  case round =>
    obtain ⟨k, hk, rfl, hown, hbel⟩ := hrel
    clear HO1 HB1 hL
    have HBl := Lib.hid hbel
    clear hbel
    by_cases hlt : k < zs.length
    · have hk16 : k < 16 := by omega
      have hx := HA.out k hlt
      obtain ⟨b, off, rfl, hb, hc⟩ := (HR.out.below HBl.out).at hlt
      have i1 : (0 : Int) ≤ (k : Int) := by omega
      have i2 : (k : Int) < (zs.length : Int) := by omega
      have HBD := Lib.hid (fun j => cn_bd HA.out j k hk)
      have HSU := Lib.hid (fun j => cn_succ zs j k)
      have HGD := Lib.hid (fun j (hj : j < L + 1) => ro_getD zs L k j hj)
      have HLN := Lib.hid (ro_length zs L k)
      have hpf := hown
      rw [← pf_zero (fun j => cn zs j (k + 1)) (ro zs L k)] at hpf
      have hcell := pf_cellN HLN.out hpf (by omega)
      rw [HGD.out 0 (by omega)] at hcell
      have hfro := hpf.frozenAt 0
      have hs0 := HBD.out 0
      have HST := Lib.hid (pf_storeN HLN.out hpf (by omega) (cn zs 0 k + zs.getD k 0) (by rw [HSU.out 0]; show _ = _ + _ * ((1 : Nat) : Int); omega))
      have HC0 := Lib.hid (show wr.cell? ⟨b, off + k, none⟩ = some (.int .i64 (zs.getD k 0)) ∧ b < wr.heap.size from ⟨hc, hb⟩)
      have HALL := Lib.hid (ro_all zs L k)
      have hgs : w.heap.size < wr.heap.size := (hown.lt _ rfl).2
      clear hown hpf
      obtain ⟨x, hxe⟩ : ∃ x, x = zs.getD k 0 := ⟨_, rfl⟩
      rw [← hxe] at hc hx HST HC0
      have HXE := Lib.hid hxe
      have hx1 : 0 ≤ x := by omega
      have hx2 : x ≤ 1 := by omega
      clear hxe hx
      obtain ⟨s, hs⟩ : ∃ s, s = cn zs 0 k := ⟨_, rfl⟩
      rw [← hs] at hcell hs0 HST
      clear hs
      have hbit0 := fun (i : Nat) => bit_at k i hk16
      have HBIT := Lib.hid hbit0
      clear hbit0
      go_wp2_with fail
      go_still_tail 10, (by kernel_rfl)
      go_wp2_with fail
      obtain ⟨W1, hW1⟩ : ∃ W1 : World, W1 = (wr.setCell ⟨w.heap.size, 0, none⟩ (.int .i64 (s + x))).drew := ⟨_, rfl⟩
      have HW1 := Lib.hid (show W1.ownsRow w.heap.size 3 1 (.slice (some ⟨w.heap.size, 0, none⟩) (L + 1) (L + 1)) (L + 1) ((pf (fun j => cn zs j (k + 1)) (ro zs L k) 1).map (Value.int .i64)) ∧ Below w.heap.size w W1 from ⟨by rw [hW1]; exact HST.out, by rw [hW1]; exact (HBl.out.setCell (Nat.le_refl _) _).drew⟩)
      rw [← hW1]
      clear hW1 hcell hfro hs0 HST hc HC0
      go_loopw [8] (fun i wq => ∃ j : Nat, j ≤ L ∧ i = .int .i64 j ∧ wq.ownsRow w.heap.size 3 1 (.slice (some ⟨w.heap.size, 0, none⟩) (L + 1) (L + 1)) (L + 1) ((pf (fun j => cn zs j (k + 1)) (ro zs L k) (j + 1)).map (Value.int .i64)) ∧ Below w.heap.size w wq) (fun i _ => L - (intOf i).toNat)
      case atStart => exact ⟨0, Nat.zero_le _, rfl, HW1.out.1, HW1.out.2⟩
      case round =>
        obtain ⟨j, hj, rfl, hown, hbel⟩ := hrel
        clear HW1
        have HBq := Lib.hid hbel
        clear hbel
        by_cases hjt : j < L
        · obtain ⟨b', off', e', hb', hc⟩ := (HR.out.below HBq.out).at hlt
          cases e'
          rw [← HXE.out] at hc
          have hcell := pf_cellN HLN.out hown (show j + 1 < L + 1 by omega)
          rw [HGD.out (j + 1) (by omega)] at hcell
          have hfro := hown.frozenAt (j + 1)
          have hs0 := HBD.out (j + 1)
          have hdg : k / 2 ^ j % 2 ≤ 1 := by omega
          have HST := Lib.hid (pf_storeN HLN.out hown (show j + 1 < L + 1 by omega) (cn zs (j + 1) k + x * ((k / 2 ^ j % 2 : Nat) : Int)) (by rw [HSU.out (j + 1), ← HXE.out]; rfl))
          have hbit := HBIT.out j
          have j1 : (0 : Int) ≤ (j : Int) := by omega
          have j3 : (j : Int) + 1 < (L : Int) + 1 := by omega
          have j5 : (0 : Int) ≤ (j : Int) + 1 := by omega
          have e5 : ((j : Int) + 1).toNat = j + 1 := by omega
          clear hown
          generalize cn zs (j + 1) k = s at *
          generalize k / 2 ^ j % 2 = d at *
          have hx3 : x = 0 ∨ x = 1 := by omega
          have hm : 0 ≤ x * (d : Int) ∧ x * (d : Int) ≤ 1 := by rcases hx3 with rfl | rfl <;> omega
          clear hx3
          have e2 : IntKind.i64.wrap (x * (d : Int)) = x * (d : Int) := IntWalk.i64_in _ (by omega)
          have e3 : IntKind.i64.wrap (s + x * (d : Int)) = s + x * (d : Int) := IntWalk.i64_in _ (by omega)
          have e4 : IntKind.i64.wrap ((j : Int) + 1) = (j : Int) + 1 := IntWalk.i64_in _ (by omega)
          have e6 : (1 + (j : Int)).toNat = j + 1 := by omega
          clear hm
          go_wp2_with fail
          go_still_tail 19, (by kernel_rfl)
          go_wp2_with fail
          go_roundw
          case rel => exact ⟨j + 1, by omega, by go_num, HST.out, (HBq.out.setCell (Nat.le_refl _) _).drew⟩
          case measure => simp [intOf]; omega
        · obtain rfl : j = L := by omega
          rw [HALL.out] at hown
          have HO := Lib.hid hown
          clear hown
          go_wp2_with fail
          go_roundw
          case rel => exact ⟨k + 1, by omega, by go_num, HO.out, HBq.out⟩
          case measure => simp [intOf]; omega
    · obtain rfl : k = zs.length := by omega
      have HF1 := Lib.hid (show RetIB (chow zs L) true w (.returned (.tuple #[.slice (some ⟨w.heap.size, 0, none⟩) (L + 1) (L + 1), .bool true])) wr from ⟨_, rfl, OwnI.of (by unfold chow; rw [ro_length]; exact hown), HBl.out⟩)
      clear hown
      go_wp2_with fail
      go_ret2
      exact HF1.out
set_option maxHeartbeats 1000000 in
theorem impl_no (n : Int) (a : Option Addr) (zs : List Int) (c : Nat)  (w : World) (hr : ints.Reads .i64 w a zs) (hk : tab.tabB n zs = false) :
    Calls Try.prog 22 #[.int .i64 n, .slice a zs.length c] w (RetIB [] false w) := by
  have HT := Lib.hid (fun (wa : World) (hb : Below w.heap.size w wa) => tab.impl_tab n a zs c wa (hr.below hb) false (Lib.hid hk))
  clear hr hk
  go_enter Try.func22, Try.ntmps22
  go_wp2_with fail
  refine (HT.out _ (Below.refl _ _)).mono ?_
  rintro e w' ⟨rfl, m, rfl⟩
  go_wp2_with fail
  go_ret2
  exact ret_empty (ints.below_drewN (Below.refl _ _) _)
set_option maxRecDepth 100000 in
set_option maxHeartbeats 4000000 in
theorem impl_yes (n : Int) (a : Option Addr) (zs : List Int) (c : Nat) (w : World) (hr : ints.Reads .i64 w a zs) (hk : tab.tabB n zs = true) :
    Calls Try.prog 22 #[.int .i64 n, .slice a zs.length c] w (RetIB (chow zs n.toNat) true w) := by
  obtain ⟨i0, hi, hz0, hz1, hz2⟩ := info_parts mk.infoInt
  have HT := Lib.hid (fun (wa : World) (hb : Below w.heap.size w wa) => tab.impl_tab n a zs c wa (hr.below hb) true (Lib.hid hk))
  have HA := Lib.hid (tab_at hk)
  obtain ⟨m0, rfl, h4, hpw, h16, hrg⟩ := tab_nat hk
  rw [show ((m0 : Int).toNat) = m0 by omega]
  have HR := Lib.hid hr
  clear hk hr hpw hrg
  go_enter Try.func22, Try.ntmps22
  go_wp2_with fail
  refine (HT.out _ (Below.refl _ _)).mono ?_
  rintro e w' ⟨rfl, m, rfl⟩
  obtain ⟨wp, hwp⟩ : ∃ wp : World, wp = w.drewN m := ⟨_, rfl⟩
  have HBp := Lib.hid (show Below w.heap.size w wp by rw [hwp]; exact ints.below_drewN (Below.refl _ _) m)
  have hsp := HBp.out.size
  rw [← hwp]
  clear hwp
  go_wp2_with (refine wpList_make_full _ rfl _ _ 22 rfl wp.heap.size 3 i0 (.int .i64 0) 1 Try.underlying22 hi hz0 hz1 .i64 .i64 _ _ (1 + m0) rfl rfl rfl rfl (by rw [hz2]; omega) (by unfold maxLen; omega) (Nat.le_refl _) ?_; intro w1 hown1 hgrow1; refine Hid.out ?_)
  refine Lib.hid ?_
  have hb1 := (Below.refl wp.heap.size wp).grown hgrow1 (Nat.le_refl _) (by simp)
  have HB1 := Lib.hid (show Below w.heap.size w w1 from HBp.out.trans (hb1.mono hsp))
  have HBP := Lib.hid hb1
  rw [show (Value.int .i64 0).cells = #[Value.int .i64 0] from rfl, Nat.mul_one, toList_madeCells_one, Nat.add_comm 1 m0] at hown1
  rw [Nat.add_comm 1 m0]
  obtain ⟨ps, hps⟩ : ∃ ps : List Int, ps = placesTo (fun k => decide (0 < zs.getD k 0)) zs.length := ⟨_, rfl⟩
  have hpl : ps.length ≤ 16 := by rw [hps]; exact Nat.le_trans (placesTo_length _ _) h16
  have HPM := Lib.hid (show ∀ i, i < ps.length → ∃ q : Nat, ps.getD i 0 = (q : Int) ∧ q < zs.length by rw [hps]; exact placesTo_mem _ _)
  have HEND := Lib.hid (show rs ps m0 ps.length = chow zs m0 by rw [hps]; unfold rs chow ro; exact mk_congr (fun j _ => cs_cn HA.out j zs.length (Nat.le_refl _)))
  have HIN := Lib.hid (impl_in a zs c w1 (HR.out.below HB1.out) (by omega))
  rw [← hps] at HIN
  clear hps
  rw [show List.replicate (m0 + 1) (Value.int .i64 0) = (rs ps m0 0).map (Value.int .i64) by rw [rs_zero, List.map_replicate]] at hown1
  have hw1g : wp.heap.size < w1.heap.size := (hown1.lt _ rfl).2
  have HO1 := Lib.hid hown1
  clear hgrow1 hown1 hb1
  go_wp2_with fail
  refine HIN.out.mono ?_
  rintro e w2 ⟨v, rfl, hov, hb2⟩
  obtain ⟨p, q0, hv, _, _, _⟩ := hov.slice
  subst hv
  replace HO1 := Lib.hid (show w2.ownsRow wp.heap.size 3 1 (.slice (some ⟨wp.heap.size, 0, none⟩) (m0 + 1) (m0 + 1)) (m0 + 1) ((rs ps m0 0).map (Value.int .i64)) from ownsRow_block HO1.out (fun g hg => hb2.block g (HO1.out.lt g hg).2))
  replace HB1 := Lib.hid (HB1.out.trans (hb2.mono HB1.out.size))
  have HP1 := Lib.hid hov
  clear hov hb2 HIN HBP
  go_wp2_with fail
  go_loopw [21] (fun i wr => ∃ r : Nat, r ≤ ps.length ∧ i = .int .i64 r ∧ OwnI w1.heap.size w2.heap.size wr (.slice p ps.length q0) ps ∧ wr.ownsRow wp.heap.size 3 1 (.slice (some ⟨wp.heap.size, 0, none⟩) (m0 + 1) (m0 + 1)) (m0 + 1) ((rs ps m0 r).map (Value.int .i64)) ∧ Below w.heap.size w wr) (fun i _ => ps.length - (intOf i).toNat)
  case atStart => exact ⟨0, Nat.zero_le _, rfl, HP1.out, HO1.out, HB1.out⟩
  case round =>
    obtain ⟨r, hr, rfl, hop, hown, hbel⟩ := hrel
    clear HO1 HB1 HP1
    have HBl := Lib.hid hbel
    clear hbel
    by_cases hlt : r < ps.length
    · obtain ⟨q, hq, hql⟩ := HPM.out r hlt
      have hq16 : q < 16 := by omega
      obtain ⟨p', c', e', hrp, _, _⟩ := hop.slice
      cases e'
      obtain ⟨b, off, rfl, hb, hc⟩ := hrp.at hlt
      rw [hq] at hc
      clear hrp
      have i1 : (0 : Int) ≤ (r : Int) := by omega
      have i2 : (r : Int) < (ps.length : Int) := by omega
      have HBD := Lib.hid (fun j => cs_bd ps j r)
      have HSU := Lib.hid (show ∀ j, cs ps j (r + 1) = cs ps j r + (dg q j : Int) from fun j => by rw [cs_succ, hq]; simp)
      have HGD := Lib.hid (fun j (hj : j < m0 + 1) => rs_getD ps m0 r j hj)
      have HLN := Lib.hid (rs_length ps m0 r)
      have hpf := hown
      rw [← pf_zero (fun j => cs ps j (r + 1)) (rs ps m0 r)] at hpf
      have hcell := pf_cellN HLN.out hpf (by omega)
      rw [HGD.out 0 (by omega)] at hcell
      have hfro := hpf.frozenAt 0
      have hs0 := HBD.out 0
      have HST := Lib.hid (pf_storeN HLN.out hpf (by omega) (cs ps 0 r + 1) (by rw [HSU.out 0]; rfl))
      have HALL := Lib.hid (rs_all ps m0 r)
      have HOP := Lib.hid hop
      clear hown hpf hop hq
      obtain ⟨s, hs⟩ : ∃ s, s = cs ps 0 r := ⟨_, rfl⟩
      rw [← hs] at hcell hs0 HST
      clear hs
      go_wp2_with fail
      obtain ⟨W1, hW1⟩ : ∃ W1 : World, W1 = (wr.setCell ⟨wp.heap.size, 0, none⟩ (.int .i64 (s + 1))) := ⟨_, rfl⟩
      have HW1 := Lib.hid (show OwnI w1.heap.size w2.heap.size W1 (.slice (some ⟨b, off, none⟩) ps.length q0) ps ∧ W1.ownsRow wp.heap.size 3 1 (.slice (some ⟨wp.heap.size, 0, none⟩) (m0 + 1) (m0 + 1)) (m0 + 1) ((pf (fun j => cs ps j (r + 1)) (rs ps m0 r) 1).map (Value.int .i64)) ∧ Below w.heap.size w W1 from ⟨by rw [hW1]; exact HOP.out.set hw1g _, by rw [hW1]; exact HST.out, by rw [hW1]; exact HBl.out.setCell hsp _⟩)
      rw [← hW1]
      clear hW1 hcell hfro hs0 HST hc hb HOP
      go_loopw [31] (fun i wq => ∃ j : Nat, j ≤ m0 ∧ i = .int .i64 j ∧ OwnI w1.heap.size w2.heap.size wq (.slice (some ⟨b, off, none⟩) ps.length q0) ps ∧ wq.ownsRow wp.heap.size 3 1 (.slice (some ⟨wp.heap.size, 0, none⟩) (m0 + 1) (m0 + 1)) (m0 + 1) ((pf (fun j => cs ps j (r + 1)) (rs ps m0 r) (j + 1)).map (Value.int .i64)) ∧ Below w.heap.size w wq) (fun i _ => m0 - (intOf i).toNat)
      case atStart => exact ⟨0, Nat.zero_le _, rfl, HW1.out.1, HW1.out.2.1, HW1.out.2.2⟩
      case round =>
        obtain ⟨j, hj, rfl, hop, hown, hbel⟩ := hrel
        clear HW1
        have HBq := Lib.hid hbel
        clear hbel
        by_cases hjt : j < m0
        · have hcell := pf_cellN HLN.out hown (show j + 1 < m0 + 1 by omega)
          rw [HGD.out (j + 1) (by omega)] at hcell
          have hfro := hown.frozenAt (j + 1)
          have hs0 := HBD.out (j + 1)
          have hdg : q / 2 ^ j % 2 ≤ 1 := by omega
          have HST := Lib.hid (pf_storeN HLN.out hown (show j + 1 < m0 + 1 by omega) (cs ps (j + 1) r + ((q / 2 ^ j % 2 : Nat) : Int)) (by rw [HSU.out (j + 1)]; rfl))
          have HOP := Lib.hid hop
          have j1 : (0 : Int) ≤ (j : Int) := by omega
          have j3 : 1 + (j : Int) < (m0 : Int) + 1 := by omega
          have j4 : (j : Int) + 1 < (m0 : Int) + 1 := by omega
          have j5 : (0 : Int) ≤ 1 + (j : Int) := by omega
          have e4 : IntKind.i64.wrap (1 + (j : Int)) = 1 + (j : Int) := IntWalk.i64_in _ (by omega)
          have e6 : (1 + (j : Int)).toNat = j + 1 := by omega
          have HDG := Lib.hid (fun (wz : World) => dig_any q j wz hq16 (by omega))
          clear hown hop
          generalize cs ps (j + 1) r = s at *
          generalize q / 2 ^ j % 2 = d at *
          have e3 : IntKind.i64.wrap (s + (d : Int)) = s + (d : Int) := IntWalk.i64_in _ (by omega)
          go_wp2_with fail
          go_still_tail 10, (by kernel_rfl)
          still_call (HDG.out _)
          repeat still_step
          refine wpStill_nil ?_
          go_wp2_with fail
          go_roundw
          case rel => exact ⟨j + 1, by omega, by go_num, HOP.out.set hw1g _, HST.out, (HBq.out.setCell hsp _).drew⟩
          case measure => simp [intOf]; omega
        · obtain rfl : j = m0 := by omega
          rw [HALL.out] at hown
          have HO := Lib.hid hown
          have HOP := Lib.hid hop
          clear hown hop
          go_wp2_with fail
          go_roundw
          case rel => exact ⟨r + 1, by omega, by go_num, HOP.out, HO.out, HBq.out⟩
          case measure => simp [intOf]; omega
    · obtain rfl : r = ps.length := by omega
      rw [HEND.out] at hown
      have HF1 := Lib.hid (show RetIB (chow zs m0) true w (.returned (.tuple #[.slice (some ⟨wp.heap.size, 0, none⟩) (m0 + 1) (m0 + 1), .bool true])) wr from ⟨_, rfl, (OwnI.of (by unfold chow; rw [ro_length]; exact hown)).mono hsp (Nat.le_refl _), HBl.out⟩)
      clear hown hop
      go_wp2_with fail
      go_ret2
      exact HF1.out
end Go.Proofs.Ytchlkcmgonbcjaa.chow
