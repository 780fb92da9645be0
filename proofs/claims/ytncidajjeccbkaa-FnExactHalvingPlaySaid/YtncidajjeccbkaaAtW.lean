/- Labels at the places of a set, and the hypotheses that have some: the model's walks, and the program's test. -/
import Derived.Test.YtncidajjeccbkaaClassT
import Derived.Test.YtncidajjeccbkaaSame
import Derived.Test.YtncidajjeccbkaaWhere
import Derived.Test.YtncidajjeccbkaaMk
namespace Go.Proofs.Ytncidajjeccbkaa.atw
open Go.RowKit own pp nums samplesv setcmp setord cls classt rising
set_option linter.unusedVariables false
set_option linter.unusedSimpArgs false

/-- The labels of a row at the places of a set. -/
def atL (row set : List Int) : List Int := set.map fun z => row.getD z.toNat 0
def atTo (row set : List Int) (k : Nat) : List Int := (set.take k).map fun z => row.getD z.toNat 0
theorem at_length (row set : List Int) : (atL row set).length = set.length := by simp [atL]
theorem atTo_length (row set : List Int) (k : Nat) (h : k ≤ set.length) : (atTo row set k).length = k := by simp [atTo]; omega
theorem atTo_succ (row set : List Int) (k : Nat) (h : k < set.length) : atTo row set (k + 1) = atTo row set k ++ [row.getD (set.getD k 0).toNat 0] := by
  unfold atTo
  rw [List.take_succ_eq_append_getElem h, List.map_append, List.getD_eq_getElem?_getD (l := set), List.getElem?_eq_getElem h]; rfl
theorem atTo_all (row set : List Int) : atTo row set set.length = atL row set := by unfold atTo atL; rw [List.take_length]
theorem at_getD (row set : List Int) (k : Nat) (h : k < set.length) : (atL row set).getD k 0 = row.getD (set.getD k 0).toNat 0 := by
  unfold atL
  rw [List.getD_eq_getElem?_getD, List.getElem?_map, List.getElem?_eq_getElem h, List.getD_eq_getElem?_getD (l := set), List.getElem?_eq_getElem h]; rfl
/-- All numbers of a list are places of a row. -/
def Inside (m : Nat) (set : List Int) : Prop := ∀ k, k < set.length → 0 ≤ set.getD k 0 ∧ set.getD k 0 < (m : Int)
theorem rises_inside {m : Nat} {zs : List Int} (h : risesB (m : Int) zs = true) : Inside m zs := fun k hk => by
  have := rises_at h k hk
  unfold riseAt at this
  simp only [Bool.and_eq_true, decide_eq_true_eq] at this
  omega
theorem rises_len {m : Nat} {zs : List Int} (h : risesB (m : Int) zs = true) : zs.length ≤ m := by
  have key : ∀ k, k < zs.length → (k : Int) ≤ zs.getD k 0 := by
    intro k
    induction k with
    | zero => intro hk; exact (rises_inside h 0 hk).1
    | succ k ih =>
      intro hk
      have h1 := ih (by omega)
      have := rises_at h (k + 1) hk
      unfold riseAt at this
      simp only [Bool.and_eq_true, Bool.or_eq_true, decide_eq_true_eq, Nat.add_sub_cancel] at this
      omega
  by_cases h0 : zs.length = 0
  · omega
  · have h1 := key (zs.length - 1) (by omega)
    have h2 := rises_inside h (zs.length - 1) (by omega)
    omega
set_option maxRecDepth 100000 in
set_option maxHeartbeats 2000000 in
theorem spec_at (a : Option Addr) (row : List Int) (c : Nat) (a' : Option Addr) (set : List Int) (c' : Nat) (w : World) (hr : ints.Reads .i64 w a row) (hq : ints.Reads .i64 w a' set) (hn : row.length ≤ 1048576) (hm : set.length ≤ 1048576) (hin : Inside row.length set) :
    Calls Try.prog 80 #[.slice a row.length c, .slice a' set.length c'] w (intfns.Made (atL row set) w) := by
  obtain ⟨i0, hi, hz0, hz1, hz2⟩ := info_parts mk.infoInt
  have HR := Lib.hid hr
  have HQ := Lib.hid hq
  have HIN := Lib.hid hin
  clear hr hq hin
  go_enter Try.func80, Try.ntmps80
  go_wp2_with fail
  have hown0 := (own_empty w).1
  have hb0 := below_alloc w (.cells #[] 3)
  go_loopw [5, 6] (fun v i wr => ∃ (k : Nat), k ≤ set.length ∧ i = .int .i64 k ∧ wr.ownsRow w.heap.size 3 1 v (atTo row set k).length ((atTo row set k).map (Value.int .i64)) ∧ Below w.heap.size w wr) (fun _ i _ => set.length - (intOf i).toNat)
  case atStart => exact ⟨0, Nat.zero_le _, rfl, hown0, hb0⟩
  case round =>
    obtain ⟨k, hk, rfl, hown, hbel⟩ := hrel
    have HV := Lib.hid hown.lt
    have HBl := Lib.hid hbel
    have hsz := hbel.size
    clear hown0 hb0
    by_cases hlt : k < set.length
    · have HO := Lib.hid hown
      have hlen := atTo_length row set k hk
      obtain ⟨b2, o2, rfl, hb2, hc2⟩ := (HQ.out.below hbel).at hlt
      obtain ⟨h0, h1⟩ := HIN.out k hlt
      obtain ⟨s, hs⟩ : ∃ s : Nat, set.getD k 0 = (s : Int) := ⟨(set.getD k 0).toNat, by omega⟩
      have hsl : s < row.length := by omega
      obtain ⟨b1, o1, rfl, hb1, hc1⟩ := (HR.out.below hbel).at hsl
      have HM := Lib.hid (atTo_succ row set k hlt)
      rw [hs, Int.toNat_natCast] at HM
      rw [hs] at hc2
      have i1 : (0 : Int) ≤ (k : Int) := by omega
      have i2 : (k : Int) < (set.length : Int) := by omega
      have i3 : (0 : Int) ≤ (s : Int) := by omega
      have i4 : (s : Int) < (row.length : Int) := by omega
      clear hown hbel h0 h1 hs
      generalize row.getD s 0 = x at *
      generalize atTo row set k = ms at *
      go_wp2_with (at_builtin; refine wpList_append_own _ rfl _ _ 30 rfl w.heap.size 3 i0 (.int .i64 0) 1 8 Try.underlying30 hi hz0 hz1 hz2 rfl (by decide) _ _ _ rfl (HO.out.alloc _) ⟨wr.heap.size, 0, none⟩ 1 1 [.int .i64 x] rfl rfl (cell_one_new _ _ _) (by simp [Value.oneCell']) (by unfold maxLen; omega) (by omega) (by simp; omega) ?_; intro v' w2 hown' hgrow _)
      obtain ⟨g', cap', hv'⟩ := ownsRow_succ hown'
      subst hv'
      have HO2 := Lib.hid hown'
      have HB2 := Lib.hid ((HBl.out.alloc hsz _).grown hgrow (by simp; omega) (fun g e => (HV.out g e).1))
      clear hown' hgrow
      go_wp2_with fail
      go_roundw
      case rel => exact ⟨k + 1, by omega, by go_num, by rw [HM.out, List.map_append, List.length_append]; exact HO2.out, HB2.out⟩
      case measure => simp [intOf]; omega
    · obtain rfl : k = set.length := by omega
      rw [atTo_all] at hown
      have HF1 := Lib.hid (show intfns.Made (atL row set) w (.returned u5) wr from ⟨u5, rfl, OwnI.of hown, HBl.out⟩)
      clear hown hbel
      go_wp2_with fail
      go_ret
      exact HF1.out
/-- The hypotheses, by their places, that have some labels at the places of a set. -/
def hasB (rows : List (List Int)) (set labels : List Int) (i : Nat) : Bool := decide (atL (rows.getD i []) set = labels)
set_option maxRecDepth 100000 in
set_option maxHeartbeats 4000000 in
theorem spec_version (a : Option Addr) (rows : List (List Int)) (c : Nat) (a' : Option Addr) (set : List Int) (c' : Nat) (a2 : Option Addr) (labels : List Int) (c2 : Nat) (w : World) (hr : grid.Reads w a rows) (hq : ints.Reads .i64 w a' set) (hl : ints.Reads .i64 w a2 labels) (hn : rows.length ≤ 256) (hm : ∀ i, i < rows.length → (rows.getD i []).length ≤ 8 ∧ Inside (rows.getD i []).length set) (hs8 : set.length ≤ 8) (hl8 : labels.length ≤ 1048576) :
    Calls Try.prog 75 #[.slice a rows.length c, .slice a' set.length c', .slice a2 labels.length c2] w (intfns.Made (pwh.placesTo (hasB rows set labels) rows.length) w) := by
  obtain ⟨i0, hi, hz0, hz1, hz2⟩ := info_parts mk.infoInt
  have HR := Lib.hid hr
  have HQ := Lib.hid hq
  have HL := Lib.hid hl
  have HMM := Lib.hid hm
  clear hr hq hl hm
  go_enter Try.func75, Try.ntmps75
  go_wp2_with fail
  have hown0 := (own_empty w).1
  have hb0 := below_alloc w (.cells #[] 3)
  go_loopw [7, 8] (fun v i wr => ∃ (k : Nat), k ≤ rows.length ∧ i = .int .i64 k ∧ wr.ownsRow w.heap.size 3 1 v (pwh.placesTo (hasB rows set labels) k).length ((pwh.placesTo (hasB rows set labels) k).map (Value.int .i64)) ∧ Below w.heap.size w wr) (fun _ i _ => rows.length - (intOf i).toNat)
  case atStart => exact ⟨0, Nat.zero_le _, rfl, hown0, hb0⟩
  case round =>
    obtain ⟨k, hk, rfl, hown, hbel⟩ := hrel
    have HV := Lib.hid hown.lt
    have HBl := Lib.hid hbel
    have hsz := hbel.size
    clear hown0 hb0
    by_cases hlt : k < rows.length
    · have HO := Lib.hid hown
      have hlen := pwh.placesTo_length (hasB rows set labels) k
      obtain ⟨b, off, p, q, rfl, hb, hc, hpq, hrow⟩ := (HR.out.below hbel).at hlt
      obtain ⟨hr8, hins⟩ := HMM.out k hlt
      have HA := Lib.hid (spec_at p (rows.getD k []) q a' set c' wr hrow (HQ.out.below hbel) (by omega) (by omega) hins)
      have hal := at_length (rows.getD k []) set
      have HS := Lib.hid (fun (p1 : Option Addr) (c1 : Nat) (wa : World) (hb : Below w.heap.size w wa) (h1 : ints.Reads .i64 wa p1 (atL (rows.getD k []) set)) => same.spec_same p1 (atL (rows.getD k []) set) c1 a2 labels c2 wa h1 (HL.out.below hb) (by rw [hal]; omega) hl8 (hasB rows set labels k) (Lib.hid rfl))
      have i1 : (0 : Int) ≤ (k : Int) := by omega
      have i2 : (k : Int) < (rows.length : Int) := by omega
      clear hown hbel hins hpq hrow
      have HH := Lib.hid (pwh.placesTo_hit (hasB rows set labels) k)
      have HMi := Lib.hid (pwh.placesTo_miss (hasB rows set labels) k)
      generalize hasB rows set labels k = hb at *
      generalize pwh.placesTo (hasB rows set labels) k = ms at *
      generalize atL (rows.getD k []) set = al at *
      generalize rows.getD k [] = r at *
      go_wp2_with fail
      refine HA.out.mono ?_
      rintro e w1 ⟨v, rfl, ho1, hb1⟩
      obtain ⟨p1, c1, rfl, hrd, _, _⟩ := ho1.slice
      have HB1 := Lib.hid (HBl.out.trans (hb1.mono hsz))
      have HOq := Lib.hid (OwnI.below (OwnI.of HO.out) hb1).1
      have HSS := Lib.hid (HS.out p1 c1 w1 HB1.out hrd)
      rw [hal] at HSS
      clear hb1 ho1 hrd HS
      go_wp2_with fail
      refine HSS.out.mono ?_
      rintro e w' ⟨rfl, m2, rfl⟩
      have HB3 := Lib.hid (ints.below_drewN HB1.out m2)
      have HOr := Lib.hid (show (w1.drewN m2).ownsRow w.heap.size 3 1 u7 ms.length (ms.map (Value.int .i64)) from HOq.out)
      have hzq : w.heap.size ≤ (w1.drewN m2).heap.size := HB3.out.size
      generalize w1.drewN m2 = w3 at *
      cases hb
      · have HM := Lib.hid (HMi.out rfl)
        go_wp2_with fail
        go_roundw
        case rel => exact ⟨k + 1, by omega, by go_num, by rw [HM.out]; exact HOr.out, HB3.out⟩
        case measure => simp [intOf]; omega
      · have HM := Lib.hid (HH.out rfl)
        go_wp2_with (at_builtin; refine wpList_append_own _ rfl _ _ 30 rfl w.heap.size 3 i0 (.int .i64 0) 1 8 Try.underlying30 hi hz0 hz1 hz2 rfl (by decide) _ _ _ rfl (HOr.out.alloc _) ⟨w3.heap.size, 0, none⟩ 1 1 [.int .i64 (k : Nat)] rfl rfl (cell_one_new _ _ _) (by simp [Value.oneCell']) (by unfold maxLen; omega) (by omega) (by simp; omega) ?_; intro v' w2 hown' hgrow _)
        obtain ⟨g', cap', hv'⟩ := ownsRow_succ hown'
        subst hv'
        have HO2 := Lib.hid hown'
        have HB2 := Lib.hid ((HB3.out.alloc hzq _).grown hgrow (by simp; omega) (fun g e => (HV.out g e).1))
        clear hown' hgrow
        go_wp2_with fail
        go_roundw
        case rel => exact ⟨k + 1, by omega, by go_num, by rw [HM.out, List.map_append, List.length_append]; exact HO2.out, HB2.out⟩
        case measure => simp [intOf]; omega
    · obtain rfl : k = rows.length := by omega
      have HF1 := Lib.hid (show intfns.Made (pwh.placesTo (hasB rows set labels) rows.length) w (.returned u7) wr from ⟨u7, rfl, OwnI.of hown, HBl.out⟩)
      clear hown hbel
      go_wp2_with fail
      go_ret
      exact HF1.out
theorem at_eq {row set labels : List Int} (hl : labels.length = set.length) (h : ∀ k, k < set.length → row.getD (set.getD k 0).toNat 0 = labels.getD k 0) : atL row set = labels := by
  apply List.ext_getElem?
  intro k
  by_cases hk : k < set.length
  · have := h k hk
    rw [← at_getD row set k hk, List.getD_eq_getElem?_getD, List.getD_eq_getElem?_getD, List.getElem?_eq_getElem (by rw [at_length]; exact hk), List.getElem?_eq_getElem (by omega)] at this
    rw [List.getElem?_eq_getElem (by rw [at_length]; exact hk), List.getElem?_eq_getElem (by omega)]
    exact congrArg some this
  · rw [List.getElem?_eq_none (by rw [at_length]; omega), List.getElem?_eq_none (by omega)]
theorem at_ne {row set labels : List Int} {k : Nat} (hk : k < set.length) (h : row.getD (set.getD k 0).toNat 0 ≠ labels.getD k 0) : atL row set ≠ labels := fun e => h (by rw [← at_getD row set k hk, e])
set_option maxRecDepth 100000 in
set_option maxHeartbeats 4000000 in
theorem impl_has (a : Option Addr) (row : List Int) (c : Nat) (a' : Option Addr) (set : List Int) (c' : Nat) (a2 : Option Addr) (labels : List Int) (c2 : Nat) (w : World) (hr : ints.Reads .i64 w a row) (hq : ints.Reads .i64 w a' set) (hl : ints.Reads .i64 w a2 labels) (hn : row.length ≤ 1048576) (hm : set.length ≤ 1048576) (hin : Inside row.length set) (hll : labels.length = set.length) (ok : Bool) (h : Hid (decide (atL row set = labels) = ok)) :
    Calls Try.prog 78 #[.slice a row.length c, .slice a' set.length c', .slice a2 labels.length c2] w (fun e w' => e = .returned (.bool ok) ∧ ∃ m, w' = w.drewN m) := by
  have HIN := Lib.hid hin
  have HLL := Lib.hid hll
  clear hin hll
  go_enter Try.func78, Try.ntmps78
  go_wp2_with fail
  go_loopw [11] (fun i wr => ∃ k : Nat, k ≤ set.length ∧ i = .int .i64 k ∧ Hid (∀ j, j < k → row.getD (set.getD j 0).toNat 0 = labels.getD j 0) ∧ ∃ m, wr = w.drewN m) (fun i _ => set.length - (intOf i).toNat)
  case atStart => exact ⟨0, Nat.zero_le _, rfl, fun j hj => by omega, 0, rfl⟩
  case round =>
    obtain ⟨k, hk, rfl, hj, m, rfl⟩ := hrel
    have hrr : ints.Reads .i64 (w.drewN m) a row := hr
    have hqq : ints.Reads .i64 (w.drewN m) a' set := hq
    have hll : ints.Reads .i64 (w.drewN m) a2 labels := hl
    generalize hwr : w.drewN m = wr at *
    have HWR := Lib.hid hwr
    clear hwr
    by_cases hlt : k < set.length
    · obtain ⟨b2, o2, rfl, hb2, hc2⟩ := hqq.at hlt
      obtain ⟨b3, o3, rfl, hb3, hc3⟩ := hll.at (k := k) (by have := HLL.out; omega)
      obtain ⟨h0, h1⟩ := HIN.out k hlt
      obtain ⟨s, hs⟩ : ∃ s : Nat, set.getD k 0 = (s : Int) := ⟨(set.getD k 0).toNat, by omega⟩
      have hsl : s < row.length := by omega
      obtain ⟨b1, o1, rfl, hb1, hc1⟩ := hrr.at hsl
      have i1 : (0 : Int) ≤ (k : Int) := by omega
      have i2 : (k : Int) < (set.length : Int) := by omega
      have i3 : (0 : Int) ≤ (s : Int) := by omega
      have i4 : (s : Int) < (row.length : Int) := by omega
      have i5 : (k : Int) < (labels.length : Int) := by have := HLL.out; omega
      by_cases e : row.getD s 0 = labels.getD k 0
      · have HJ : Hid (∀ j, j < k + 1 → row.getD (set.getD j 0).toNat 0 = labels.getD j 0) := fun j h => by
          by_cases e2 : j = k
          · rw [e2, hs, Int.toNat_natCast]; exact e
          · exact hj.out j (by omega)
        have g0 : (row.getD s 0 != labels.getD k 0) = false := by rw [bne_eq_false_iff_eq]; exact e
        rw [hs] at hc2
        clear hrr hqq hll hj e h0 h1 hs
        generalize row.getD s 0 = x at *
        generalize labels.getD k 0 = y at *
        go_wp2_with fail
        go_quiet (fail)
        go_wp2_with fail
        go_roundw
        case rel => exact ⟨k + 1, by omega, by go_num, HJ, _, by rw [← HWR.out, World.drewN_drewN]⟩
        case measure => simp [intOf]; omega
      · have eo : ok = false := by rw [← h.out]; exact decide_eq_false (at_ne hlt (by rw [hs, Int.toNat_natCast]; exact e))
        have g0 : (row.getD s 0 != labels.getD k 0) = true := by rw [bne_iff_ne]; exact e
        rw [hs] at hc2
        clear hrr hqq hll hj e h0 h1 hs h
        subst eo
        generalize row.getD s 0 = x at *
        generalize labels.getD k 0 = y at *
        go_wp2_with fail
        go_quiet (fail)
        go_wp2_with fail
        go_ret
        exact ⟨rfl, _, by rw [← HWR.out, World.drewN_drewN]⟩
    · obtain rfl : k = set.length := by omega
      have eo : ok = true := by rw [← h.out]; exact decide_eq_true (at_eq HLL.out hj.out)
      clear hrr hqq hll hj h
      subst eo
      go_wp2_with fail
      go_ret
      exact ⟨rfl, _, HWR.out.symm⟩
end Go.Proofs.Ytncidajjeccbkaa.atw
