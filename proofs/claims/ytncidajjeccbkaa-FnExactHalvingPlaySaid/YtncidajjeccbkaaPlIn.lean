/- The walks of the program's places of a list where its numbers are greater than 0. -/
import Derived.Test.YtncidajjeccbkaaNums
import Derived.Test.YtncidajjeccbkaaOwnG
import Derived.OwnWalk
import Derived.RangeFuncBox
namespace Go.Proofs.Ytncidajjeccbkaa.plin
open Go.RowKit own pp nums 
set_option linter.unusedVariables false
set_option linter.unusedSimpArgs false

theorem infoInt : (Try.prog.info? 3).map (fun i => (i.zero, i.size, i.bytes)) = some (some (.int .i64 0), 1, 8) := by kernel_rfl
/-- The places below k where p holds. -/
def placesTo (p : Nat → Bool) (k : Nat) : List Int := ((List.range k).filter p).map fun i : Nat => (i : Int)
theorem placesTo_length (p : Nat → Bool) (k : Nat) : (placesTo p k).length ≤ k := by
  unfold placesTo
  rw [List.length_map]
  exact Nat.le_trans (List.length_filter_le _ _) (by simp)
theorem placesTo_hit (p : Nat → Bool) (k : Nat) (h : p k = true) : placesTo p (k + 1) = placesTo p k ++ [(k : Int)] := by
  simp [placesTo, List.range_succ, List.filter_append, h]
theorem placesTo_miss (p : Nat → Bool) (k : Nat) (h : p k = false) : placesTo p (k + 1) = placesTo p k := by
  simp [placesTo, List.range_succ, List.filter_append, h]

set_option maxHeartbeats 1000000 in
theorem in_closure (k : Nat) (b0 : Nat) (a : Option Addr) (zs : List Int) (c : Nat) (w : World) (hc0 : w.cell? ⟨b0, 0, none⟩ = some (.slice a zs.length c)) (hr : ints.Reads .i64 w a zs) (hk : k < zs.length) (hn : zs.length ≤ 1048576) (ok : Bool) (hok : decide (0 < zs.getD k 0) = ok) :
    Calls Try.prog 110 #[.int .i64 k, .pointer (some ⟨b0, 0, none⟩)] w (fun e w' => e = .returned (.bool ok) ∧ ∃ m, w' = w.drewN m) := by
  obtain ⟨b1, o1, rfl, _, hc1⟩ := hr.at hk
  clear hr
  generalize zs.getD k 0 = s at *
  have i1 : (0 : Int) ≤ (k : Int) := by omega
  have i2 : (k : Int) < (zs.length : Int) := by omega
  go_enter Try.func110, Try.ntmps110
  go_wp2_with fail
  go_ret
  exact ⟨rfl, 0, rfl⟩
set_option maxRecDepth 100000 in
set_option maxHeartbeats 1000000 in
theorem in_places (n : Nat) (c1 : Value) (p : Nat → Bool) (w : World) (hn : n ≤ 1048576)
    (HC : Hid (∀ (k : Nat) (wr : World), k < n → Below w.heap.size w wr → Calls Try.prog 110 #[.int .i64 k, c1] wr fun e w' => e = .returned (.bool (p k)) ∧ ∃ m, w' = wr.drewN m)) :
    Calls Try.prog 76 #[.int .i64 n, .func (.func 110) #[] #[c1]] w (intfns.Made (placesTo p n) w) := by
  obtain ⟨i0, hi, hz0, hz1, hz2⟩ := info_parts infoInt
  go_enter Try.func76, Try.ntmps76
  go_wp2_with fail
  have hown0 := (own_empty w).1
  have hb0 := below_alloc w (.cells #[] 3)
  go_loopw [5, 9] (fun v i wr => ∃ (k : Nat), k ≤ n ∧ i = .int .i64 k ∧ wr.ownsRow w.heap.size 3 1 v (placesTo p k).length ((placesTo p k).map (Value.int .i64)) ∧ Below w.heap.size w wr) (fun _ i _ => n - (intOf i).toNat)
  case atStart => exact ⟨0, Nat.zero_le _, rfl, hown0, hb0⟩
  case round =>
    obtain ⟨k, hk, rfl, hown, hbel⟩ := hrel
    have HV := Lib.hid hown.lt
    have HBl := Lib.hid hbel
    have hsz := hbel.size
    clear hown0 hb0
    by_cases hlt : k < n
    · have HO := Lib.hid hown
      have HF := Lib.hid (HC.out k wr hlt hbel)
      have hlen := placesTo_length p k
      clear hown hbel
      cases hp : p k
      · have HM := Lib.hid (placesTo_miss p k hp)
        rw [hp] at HF
        clear hp
        generalize placesTo p k = ms at *
        go_wp2_with fail
        refine HF.out.mono ?_
        rintro e w' ⟨rfl, m, rfl⟩
        go_wp2_with fail
        go_roundw
        case rel => exact ⟨k + 1, by omega, by go_num, by rw [HM.out]; exact HO.out, ints.below_drewN HBl.out _⟩
        case measure => simp [intOf]; omega
      · have HM := Lib.hid (placesTo_hit p k hp)
        rw [hp] at HF
        clear hp
        generalize placesTo p k = ms at *
        go_wp2_with fail
        refine HF.out.mono ?_
        rintro e w' ⟨rfl, m, rfl⟩
        obtain ⟨wq, hwq⟩ : ∃ wq, wq = wr.drewN m := ⟨_, rfl⟩
        have hoq : wq.ownsRow w.heap.size 3 1 u5 ms.length (ms.map (Value.int .i64)) := by rw [hwq]; exact HO.out
        have HBq := Lib.hid (show Below w.heap.size w wq by rw [hwq]; exact ints.below_drewN HBl.out _)
        have hzq : w.heap.size ≤ wq.heap.size := HBq.out.size
        rw [← hwq]
        clear hwq
        go_wp2_with (at_builtin; refine wpList_append_own _ rfl _ _ 30 rfl w.heap.size 3 i0 (.int .i64 0) 1 8 Try.underlying30 hi hz0 hz1 hz2 rfl (by decide) _ _ _ rfl (hoq.alloc _) ⟨wq.heap.size, 0, none⟩ 1 1 [.int .i64 (k : Nat)] rfl rfl (cell_one_new _ _ _) (by simp [Value.oneCell']) (by unfold maxLen; omega) (by omega) (by simp; omega) ?_; intro v' w2 hown' hgrow _)
        obtain ⟨g', cap', hv'⟩ := ownsRow_succ hown'
        subst hv'
        have HO2 := Lib.hid hown'
        have HB2 := Lib.hid ((HBq.out.alloc HBq.out.size _).grown hgrow (Nat.le_trans HBq.out.size (by simp)) (fun g e => (HV.out g e).1))
        clear hoq hown' hgrow
        go_wp2_with fail
        go_roundw
        case rel => exact ⟨k + 1, by omega, by go_num, by rw [HM.out, List.map_append, List.length_append]; exact HO2.out, HB2.out⟩
        case measure => simp [intOf]; omega
    · obtain rfl : k = n := by omega
      have HF1 := Lib.hid (show intfns.Made (placesTo p k) w (.returned u5) wr from ⟨u5, rfl, OwnI.of hown, HBl.out⟩)
      clear hown hbel
      go_wp2_with fail
      go_ret
      exact HF1.out
set_option maxHeartbeats 1000000 in
theorem impl_in (a : Option Addr) (zs : List Int) (c : Nat) (w : World) (hr : ints.Reads .i64 w a zs) (hn : zs.length ≤ 1048576) :
    Calls Try.prog 105 #[.slice a zs.length c] w (intfns.Made (placesTo (fun k => decide (0 < zs.getD k 0)) zs.length) w) := by
  have HR := Lib.hid hr
  clear hr
  go_enter Try.func105, Try.ntmps105
  obtain ⟨w0, hw0⟩ : ∃ w0 : World, w0 = w.alloc (.cells #[.slice a zs.length c] 30) := ⟨_, rfl⟩
  have x0 : w0.cell? ⟨w.heap.size, 0, none⟩ = some (.slice a zs.length c) := by rw [hw0]; exact cell_new _ _ _ rfl rfl
  have HB0 := Lib.hid (show Below w.heap.size w w0 by rw [hw0]; exact below_alloc w (.cells #[.slice a zs.length c] 30))
  have s0 : w.heap.size < w0.heap.size := by rw [hw0]; simp
  go_wp2_with fail
  rw [← hw0]
  clear hw0
  refine (in_places zs.length (.pointer (some ⟨w.heap.size, 0, none⟩)) (fun k => decide (0 < zs.getD k 0)) w0 hn (Lib.hid (fun k wr hk hb => in_closure k _ a zs c wr (cell_below hb x0 s0) ((HR.out.below HB0.out).below hb) hk hn _ rfl))).mono ?_
  rintro e w3 ⟨v3, rfl, hov, hb3⟩
  have HF := Lib.hid (show intfns.Made (placesTo (fun k => decide (0 < zs.getD k 0)) zs.length) w (.returned v3) w3 from ⟨v3, rfl, hov.mono (by omega) (Nat.le_refl _), HB0.out.trans (hb3.mono (by omega))⟩)
  clear hov hb3
  go_wp2_with fail
  go_ret
  exact HF.out
end Go.Proofs.Ytncidajjeccbkaa.plin
