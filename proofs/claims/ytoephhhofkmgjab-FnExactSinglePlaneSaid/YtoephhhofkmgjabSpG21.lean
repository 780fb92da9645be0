/- Several texts in one. -/
import Derived.OwnWalk
import Derived.RangeFuncBox
import Derived.Test.YtoephhhofkmgjabSpG14
import Derived.Test.YtoephhhofkmgjabSpG6
namespace Go.Proofs.Ytoephhhofkmgjab.minus
open Go.RowKit own pp nums planes
set_option linter.unusedVariables false

theorem infoInt : (Try.prog.info? 3).map (fun i => (i.zero, i.size, i.bytes)) = some (some (.int .i64 0), 1, 8) := by kernel_rfl
def neg (zs : List Int) : List Int := zs.map fun z => -z
theorem neg_length (zs : List Int) : (neg zs).length = zs.length := by simp [neg]
theorem neg_take_succ (zs : List Int) (k : Nat) (h : k < zs.length) : neg (zs.take (k + 1)) = neg (zs.take k) ++ [-(zs.getD k 0)] := by
  unfold neg
  rw [List.take_succ_eq_append_getElem h, List.map_append, List.getD_eq_getElem?_getD, List.getElem?_eq_getElem h]; rfl

end Go.Proofs.Ytoephhhofkmgjab.minus

namespace Go.Proofs.Ytoephhhofkmgjab.pointswith
open Go.RowKit own pp nums samplesv samplest
set_option linter.unusedVariables false
set_option linter.unusedSimpArgs false

theorem infoInt : (Try.prog.info? 3).map (fun i => (i.zero, i.size, i.bytes)) = some (some (.int .i64 0), 1, 8) := by kernel_rfl
/-- The places below k where p holds. -/
def placesTo (p : Nat → Bool) (k : Nat) : List Int := ((List.range k).filter p).map fun i : Nat => (i : Int)
theorem placesTo_length (p : Nat → Bool) (k : Nat) : (placesTo p k).length ≤ k := by
  unfold placesTo
  rw [List.length_map]
  exact Nat.le_trans (List.length_filter_le _ _) (by simp)
theorem placesTo_hit (p : Nat → Bool) (k : Nat) (h : p k = true) : placesTo p (k + 1) = placesTo p k ++ [(k : Int)] := by
  simp [placesTo, List.range_succ, List.filter_append, h]
theorem placesTo_miss (p : Nat → Bool) (k : Nat) (h : p k = false) : placesTo p (k + 1) = placesTo p k := by
  simp [placesTo, List.range_succ, List.filter_append, h]


/-- A sample and a label. -/
def swB (rows : List (List Int)) (zs : List Int) (l : Int) : Bool := sampleB rows zs && labelB l
def hasL (zs : List Int) (l : Int) (k : Nat) : Bool := zs.getD k 0 == l

theorem with_closure (k : Nat) (bS bl : Nat) (lp : Option Addr) (zs : List Int) (lc : Nat) (l : Int) (w : World)
    (hl : w.cell? ⟨bS, 1, none⟩ = some (.slice lp zs.length lc)) (hll : w.cell? ⟨bl, 0, none⟩ = some (.int .i64 l)) (hrl : ints.Reads .i64 w lp zs) (h2 : k < zs.length) (hz2 : zs.length ≤ 1048576) (ok : Bool) (hok : hasL zs l k = ok) :
    Calls Try.prog 138 #[.int .i64 k, .pointer (some ⟨bS, 0, none⟩), .pointer (some ⟨bl, 0, none⟩)] w fun e w' => e = .returned (.bool ok) ∧ ∃ m, w' = w.drewN m := by
  obtain ⟨b2, o2, rfl, _, hc2⟩ := hrl.at h2
  unfold hasL at hok
  clear hrl
  generalize zs.getD k 0 = z at *
  have i1 : (0 : Int) ≤ (k : Int) := by omega
  have i3 : (k : Int) < (zs.length : Int) := by omega
  go_enter Try.func138, Try.ntmps138
  go_wp2_with fail
  go_quiet (fail)
  go_wp2_with fail
  go_ret
  exact ⟨rfl, _, rfl⟩

set_option maxRecDepth 100000 in
set_option maxHeartbeats 1000000 in
theorem with_places (n : Nat) (c1 c2 : Value) (p : Nat → Bool) (w : World) (hn : n ≤ 1048576)
    (HC : Hid (∀ (k : Nat) (wr : World), k < n → Below w.heap.size w wr → Calls Try.prog 138 #[.int .i64 k, c1, c2] wr fun e w' => e = .returned (.bool (p k)) ∧ ∃ m, w' = wr.drewN m)) :
    Calls Try.prog 105 #[.int .i64 n, .func (.func 138) #[] #[c1, c2]] w (intfns.Made (placesTo p n) w) := by
  obtain ⟨i0, hi, hz0, hz1, hz2⟩ := info_parts infoInt
  go_enter Try.func105, Try.ntmps105
  go_wp2_with fail
  have hown0 := (own_empty w).1
  have hb0 := below_alloc w (.cells #[] 3)
  go_loopw [5, 9] (fun v i wr => ∃ (k : Nat), k ≤ n ∧ i = .int .i64 k ∧ wr.ownsRow w.heap.size 3 1 v (placesTo p k).length ((placesTo p k).map (Value.int .i64)) ∧ Below w.heap.size w wr) (fun _ i _ => n - (intOf i).toNat)
  case atStart => exact ⟨0, Nat.zero_le _, rfl, hown0, hb0⟩
  case round =>
    obtain ⟨k, hk, rfl, hown, hbel⟩ := hrel
    have HV := Lib.hid hown.lt
    have HBl := Lib.hid hbel
    have hsz := hbel.size
    clear hown0 hb0
    by_cases hlt : k < n
    · have HO := Lib.hid hown
      have HF := Lib.hid (HC.out k wr hlt hbel)
      have hlen := placesTo_length p k
      clear hown hbel
      cases hp : p k
      · have HM := Lib.hid (placesTo_miss p k hp)
        rw [hp] at HF
        clear hp
        generalize placesTo p k = ms at *
        go_wp2_with fail
        refine HF.out.mono ?_
        rintro e w' ⟨rfl, m, rfl⟩
        go_wp2_with fail
        go_roundw
        case rel => exact ⟨k + 1, by omega, by go_num, by rw [HM.out]; exact HO.out, ints.below_drewN HBl.out _⟩
        case measure => simp [intOf]; omega
      · have HM := Lib.hid (placesTo_hit p k hp)
        rw [hp] at HF
        clear hp
        generalize placesTo p k = ms at *
        go_wp2_with fail
        refine HF.out.mono ?_
        rintro e w' ⟨rfl, m, rfl⟩
        obtain ⟨wq, hwq⟩ : ∃ wq, wq = wr.drewN m := ⟨_, rfl⟩
        have hoq : wq.ownsRow w.heap.size 3 1 u5 ms.length (ms.map (Value.int .i64)) := by rw [hwq]; exact HO.out
        have HBq := Lib.hid (show Below w.heap.size w wq by rw [hwq]; exact ints.below_drewN HBl.out _)
        have hzq : w.heap.size ≤ wq.heap.size := HBq.out.size
        rw [← hwq]
        clear hwq
        go_wp2_with (at_builtin; refine wpList_append_own _ rfl _ _ 22 rfl w.heap.size 3 i0 (.int .i64 0) 1 8 Try.underlying22 hi hz0 hz1 hz2 rfl (by decide) _ _ _ rfl (hoq.alloc _) ⟨wq.heap.size, 0, none⟩ 1 1 [.int .i64 (k : Nat)] rfl rfl (cell_one_new _ _ _) (by simp [Value.oneCell']) (by unfold maxLen; omega) (by omega) (by simp; omega) ?_; intro v' w2 hown' hgrow _)
        obtain ⟨g', cap', hv'⟩ := ownsRow_succ hown'
        subst hv'
        have HO2 := Lib.hid hown'
        have HB2 := Lib.hid ((HBq.out.alloc HBq.out.size _).grown hgrow (Nat.le_trans HBq.out.size (by simp)) (fun g e => (HV.out g e).1))
        clear hoq hown' hgrow
        go_wp2_with fail
        go_roundw
        case rel => exact ⟨k + 1, by omega, by go_num, by rw [HM.out, List.map_append, List.length_append]; exact HO2.out, HB2.out⟩
        case measure => simp [intOf]; omega
    · obtain rfl : k = n := by omega
      have HF1 := Lib.hid (show intfns.Made (placesTo p k) w (.returned u5) wr from ⟨u5, rfl, OwnI.of hown, HBl.out⟩)
      clear hown hbel
      go_wp2_with fail
      go_ret
      exact HF1.out
set_option maxHeartbeats 1000000 in
theorem impl_no (a : Option Addr) (rows : List (List Int)) (c : Nat) (a' : Option Addr) (zs : List Int) (c' : Nat) (l : Int) (w : World) (hr : grid.Reads w a rows) (hq : ints.Reads .i64 w a' zs) (hn : rows.length ≤ 1048576) (hz : zs.length ≤ 1048576) (hm : ∀ r ∈ rows, r.length ≤ 1048576) (h : Hid (swB rows zs l = false)) :
    Calls Try.prog 120 #[.agg #[.slice a rows.length c, .slice a' zs.length c'], .int .i64 l] w (RetIB [] false w) := by
  have HM := Lib.hid hm
  clear hm
  cases hs : sampleB rows zs
  · have HS := Lib.hid hs
    clear h hs
    have Hhr := Lib.hid hr
    have Hhq := Lib.hid hq
    clear hr hq
    go_enter Try.func120, Try.ntmps120
    go_wp2_with fail
    have x0_0 : (w.alloc (.cells #[.slice a rows.length c, .slice a' zs.length c'] 56)).cell? ⟨w.heap.size, 0, none⟩ = some (.slice a rows.length c) := cell_new _ _ _ (by simp) rfl
    have x0_1 : (w.alloc (.cells #[.slice a rows.length c, .slice a' zs.length c'] 56)).cell? ⟨w.heap.size, 1, none⟩ = some (.slice a' zs.length c') := cell_new _ _ _ (by simp) rfl
    have HB0 := Lib.hid (below_alloc w (.cells #[.slice a rows.length c, .slice a' zs.length c'] 56))
    replace x0_0 := cell_old (.cells #[.int .i64 l] 3) x0_0
    replace x0_1 := cell_old (.cells #[.int .i64 l] 3) x0_1
    have x1_0 : ((w.alloc (.cells #[.slice a rows.length c, .slice a' zs.length c'] 56)).alloc (.cells #[.int .i64 l] 3)).cell? ⟨w.heap.size + 1, 0, none⟩ = some (.int .i64 l) := cell_new _ _ _ (by simp) rfl
    replace HB0 := Lib.hid (HB0.out.alloc (by simp) (.cells #[.int .i64 l] 3))
    have s0 : w.heap.size + 2 ≤ ((w.alloc (.cells #[.slice a rows.length c, .slice a' zs.length c'] 56)).alloc (.cells #[.int .i64 l] 3)).heap.size := by simp
    generalize hw : ((w.alloc (.cells #[.slice a rows.length c, .slice a' zs.length c'] 56)).alloc (.cells #[.int .i64 l] 3)) = w0 at *
    clear hw
    have n0_0 : w.heap.size < w0.heap.size := by omega
    have n0_1 : w.heap.size + 1 < w0.heap.size := by omega
    refine (impl_sample a rows c a' zs c' _ (Hhr.out.below HB0.out) (Hhq.out.below HB0.out) hn hz HM.out false HS).mono ?_
    rintro e w1 ⟨rfl, hb⟩
    have s1 : w0.heap.size ≤ w1.heap.size := hb.size
    have n1_0 : w.heap.size < w1.heap.size := by omega
    have n1_1 : w.heap.size + 1 < w1.heap.size := by omega
    replace x0_0 := cell_below hb x0_0 (by omega)
    replace x0_1 := cell_below hb x0_1 (by omega)
    replace x1_0 := cell_below hb x1_0 (by omega)
    have HB1 := Lib.hid (HB0.out.trans (hb.mono (by omega)))
    clear hb
    go_wp2_with fail
    go_ret2
    exact ret_empty HB1.out
  have HX : Hid (labelB l = false) := by have := h.out; simp [swB, hs] at this; exact this
  have HS := Lib.hid hs
  clear h hs
  have Hhr := Lib.hid hr
  have Hhq := Lib.hid hq
  clear hr hq
  go_enter Try.func120, Try.ntmps120
  go_wp2_with fail
  have x0_0 : (w.alloc (.cells #[.slice a rows.length c, .slice a' zs.length c'] 56)).cell? ⟨w.heap.size, 0, none⟩ = some (.slice a rows.length c) := cell_new _ _ _ (by simp) rfl
  have x0_1 : (w.alloc (.cells #[.slice a rows.length c, .slice a' zs.length c'] 56)).cell? ⟨w.heap.size, 1, none⟩ = some (.slice a' zs.length c') := cell_new _ _ _ (by simp) rfl
  have HB0 := Lib.hid (below_alloc w (.cells #[.slice a rows.length c, .slice a' zs.length c'] 56))
  replace x0_0 := cell_old (.cells #[.int .i64 l] 3) x0_0
  replace x0_1 := cell_old (.cells #[.int .i64 l] 3) x0_1
  have x1_0 : ((w.alloc (.cells #[.slice a rows.length c, .slice a' zs.length c'] 56)).alloc (.cells #[.int .i64 l] 3)).cell? ⟨w.heap.size + 1, 0, none⟩ = some (.int .i64 l) := cell_new _ _ _ (by simp) rfl
  replace HB0 := Lib.hid (HB0.out.alloc (by simp) (.cells #[.int .i64 l] 3))
  have s0 : w.heap.size + 2 ≤ ((w.alloc (.cells #[.slice a rows.length c, .slice a' zs.length c'] 56)).alloc (.cells #[.int .i64 l] 3)).heap.size := by simp
  generalize hw : ((w.alloc (.cells #[.slice a rows.length c, .slice a' zs.length c'] 56)).alloc (.cells #[.int .i64 l] 3)) = w0 at *
  clear hw
  have n0_0 : w.heap.size < w0.heap.size := by omega
  have n0_1 : w.heap.size + 1 < w0.heap.size := by omega
  refine (impl_sample a rows c a' zs c' _ (Hhr.out.below HB0.out) (Hhq.out.below HB0.out) hn hz HM.out true HS).mono ?_
  rintro e w1 ⟨rfl, hb⟩
  have s1 : w0.heap.size ≤ w1.heap.size := hb.size
  have n1_0 : w.heap.size < w1.heap.size := by omega
  have n1_1 : w.heap.size + 1 < w1.heap.size := by omega
  replace x0_0 := cell_below hb x0_0 (by omega)
  replace x0_1 := cell_below hb x0_1 (by omega)
  replace x1_0 := cell_below hb x1_0 (by omega)
  have HB1 := Lib.hid (HB0.out.trans (hb.mono (by omega)))
  clear hb
  go_wp2_with fail
  refine (impl_label l _ false HX).mono ?_
  rintro e w' ⟨rfl, rfl⟩
  go_wp2_with fail
  go_ret2
  exact ret_empty HB1.out
set_option maxRecDepth 100000 in
set_option maxHeartbeats 2000000 in
theorem impl_yes (a : Option Addr) (rows : List (List Int)) (c : Nat) (a' : Option Addr) (zs : List Int) (c' : Nat) (l : Int) (w : World) (hr : grid.Reads w a rows) (hq : ints.Reads .i64 w a' zs) (hn : rows.length ≤ 1048576) (hz : zs.length ≤ 1048576) (hm : ∀ r ∈ rows, r.length ≤ 1048576) (h : Hid (swB rows zs l = true)) :
    Calls Try.prog 120 #[.agg #[.slice a rows.length c, .slice a' zs.length c'], .int .i64 l] w (RetIB (placesTo (hasL zs l) zs.length) true w) := by
  have HM := Lib.hid hm
  obtain ⟨hs, hx⟩ : sampleB rows zs = true ∧ labelB l = true := by simpa [swB] using h.out
  have HS := Lib.hid hs
  have HX := Lib.hid hx
  clear hm hs hx
  have Hhr := Lib.hid hr
  have Hhq := Lib.hid hq
  clear hr hq
  go_enter Try.func120, Try.ntmps120
  go_wp2_with fail
  have x0_0 : (w.alloc (.cells #[.slice a rows.length c, .slice a' zs.length c'] 56)).cell? ⟨w.heap.size, 0, none⟩ = some (.slice a rows.length c) := cell_new _ _ _ (by simp) rfl
  have x0_1 : (w.alloc (.cells #[.slice a rows.length c, .slice a' zs.length c'] 56)).cell? ⟨w.heap.size, 1, none⟩ = some (.slice a' zs.length c') := cell_new _ _ _ (by simp) rfl
  have HB0 := Lib.hid (below_alloc w (.cells #[.slice a rows.length c, .slice a' zs.length c'] 56))
  replace x0_0 := cell_old (.cells #[.int .i64 l] 3) x0_0
  replace x0_1 := cell_old (.cells #[.int .i64 l] 3) x0_1
  have x1_0 : ((w.alloc (.cells #[.slice a rows.length c, .slice a' zs.length c'] 56)).alloc (.cells #[.int .i64 l] 3)).cell? ⟨w.heap.size + 1, 0, none⟩ = some (.int .i64 l) := cell_new _ _ _ (by simp) rfl
  replace HB0 := Lib.hid (HB0.out.alloc (by simp) (.cells #[.int .i64 l] 3))
  have s0 : w.heap.size + 2 ≤ ((w.alloc (.cells #[.slice a rows.length c, .slice a' zs.length c'] 56)).alloc (.cells #[.int .i64 l] 3)).heap.size := by simp
  generalize hw : ((w.alloc (.cells #[.slice a rows.length c, .slice a' zs.length c'] 56)).alloc (.cells #[.int .i64 l] 3)) = w0 at *
  clear hw
  have n0_0 : w.heap.size < w0.heap.size := by omega
  have n0_1 : w.heap.size + 1 < w0.heap.size := by omega
  refine (impl_sample a rows c a' zs c' _ (Hhr.out.below HB0.out) (Hhq.out.below HB0.out) hn hz HM.out true HS).mono ?_
  rintro e w1 ⟨rfl, hb⟩
  have s1 : w0.heap.size ≤ w1.heap.size := hb.size
  have n1_0 : w.heap.size < w1.heap.size := by omega
  have n1_1 : w.heap.size + 1 < w1.heap.size := by omega
  replace x0_0 := cell_below hb x0_0 (by omega)
  replace x0_1 := cell_below hb x0_1 (by omega)
  replace x1_0 := cell_below hb x1_0 (by omega)
  have HB1 := Lib.hid (HB0.out.trans (hb.mono (by omega)))
  clear hb
  go_wp2_with fail
  refine (impl_label l _ true HX).mono ?_
  rintro e w' ⟨rfl, rfl⟩
  go_wp2_with fail
  have HC := Lib.hid (show ∀ (k : Nat) (wr : World), k < zs.length → Below w1.heap.size w1 wr → Calls Try.prog 138 #[.int .i64 k, .pointer (some ⟨w.heap.size, 0, none⟩), .pointer (some ⟨w.heap.size + 1, 0, none⟩)] wr fun e w' => e = .returned (.bool (hasL zs l k)) ∧ ∃ m, w' = wr.drewN m from fun k wr hk' hb =>
    with_closure k _ _ a' zs c' l wr (cell_below hb x0_1 (by omega)) (cell_below hb x1_0 (by omega)) ((Hhq.out.below HB1.out).below hb) hk' hz _ rfl)
  refine (with_places _ _ _ _ _ hz HC).mono ?_
  rintro e w2 ⟨v, rfl, ho, hb⟩
  have HO := Lib.hid ho
  have HB2 := Lib.hid hb
  clear ho hb
  go_wp2_with fail
  go_ret2
  exact ⟨_, rfl, HO.out.mono (by omega) (Nat.le_refl _), HB1.out.trans (HB2.out.mono (by omega))⟩
end Go.Proofs.Ytoephhhofkmgjab.pointswith
