/- The walks of the program's places where a function holds, whatever the function: it may make memory. -/
import Derived.Test.YtkbcofgigfnfaaaMk
import Derived.Outline
import Derived.Shelf.Abstract
namespace Go.Proofs.Ytkbcofgigfnfaaa.pwh
open Go.RowKit own pp nums mk
set_option linter.unusedVariables false
set_option linter.unusedSimpArgs false

/-- The places below k where p holds. -/
def placesTo (p : Nat → Bool) (k : Nat) : List Int := ((List.range k).filter p).map fun i : Nat => (i : Int)
theorem placesTo_length (p : Nat → Bool) (k : Nat) : (placesTo p k).length ≤ k := by
  unfold placesTo
  rw [List.length_map]
  exact Nat.le_trans (List.length_filter_le _ _) (by simp)
theorem placesTo_hit (p : Nat → Bool) (k : Nat) (h : p k = true) : placesTo p (k + 1) = placesTo p k ++ [(k : Int)] := by
  simp [placesTo, List.range_succ, List.filter_append, h]
theorem placesTo_miss (p : Nat → Bool) (k : Nat) (h : p k = false) : placesTo p (k + 1) = placesTo p k := by
  simp [placesTo, List.range_succ, List.filter_append, h]
theorem placesTo_congr {p q : Nat → Bool} {n : Nat} (h : ∀ k, k < n → p k = q k) : placesTo p n = placesTo q n := by
  unfold placesTo
  rw [List.filter_congr (fun k hk => h k (List.mem_range.1 hk))]

set_option maxRecDepth 100000 in
set_option maxHeartbeats 1000000 in
theorem where1 (fn : Nat) (he : Enters Try.prog fn) (c1 : Value) (n : Nat) (p : Nat → Bool) (w : World) (hn : n ≤ 1048576)
    (HC : Hid (∀ (k : Nat) (wr : World), k < n → Below w.heap.size w wr → Calls Try.prog fn #[.int .i64 k, c1] wr fun e w' => e = .returned (.bool (p k)) ∧ Below wr.heap.size wr w')) :
    Calls Try.prog 73 #[.int .i64 n, .func (.func fn) #[] #[c1]] w (intfns.Made (placesTo p n) w) := by
  obtain ⟨i0, hi, hz0, hz1, hz2⟩ := info_parts mk.infoInt
  unfold Enters at he
  go_enter Try.func73, Try.ntmps73
  go_wp2_with fail
  have hown0 := (own_empty w).1
  have hb0 := below_alloc w (.cells #[] 3)
  go_loopw [5, 9] (fun v i wr => ∃ (k : Nat), k ≤ n ∧ i = .int .i64 k ∧ wr.ownsRow w.heap.size 3 1 v (placesTo p k).length ((placesTo p k).map (Value.int .i64)) ∧ Below w.heap.size w wr) (fun _ i _ => n - (intOf i).toNat)
  case atStart => exact ⟨0, Nat.zero_le _, rfl, hown0, hb0⟩
  case round =>
    obtain ⟨k, hk, rfl, hown, hbel⟩ := hrel
    have HV := Lib.hid hown.lt
    have HBl := Lib.hid hbel
    have hsz := hbel.size
    clear hown0 hb0
    by_cases hlt : k < n
    · have HO := Lib.hid hown
      have HF := Lib.hid (HC.out k wr hlt hbel)
      have hlen := placesTo_length p k
      clear hown hbel
      cases hp : p k
      · have HM := Lib.hid (placesTo_miss p k hp)
        rw [hp] at HF
        clear hp
        generalize placesTo p k = ms at *
        go_wp2_with fail
        refine HF.out.mono ?_
        rintro e wq ⟨rfl, hbq⟩
        have HBq := Lib.hid (HBl.out.trans (hbq.mono hsz))
        have HOq := Lib.hid (OwnI.below (OwnI.of HO.out) hbq).1
        clear hbq
        go_wp2_with fail
        go_roundw
        case rel => exact ⟨k + 1, by omega, by go_num, by rw [HM.out]; exact HOq.out, HBq.out⟩
        case measure => simp [intOf]; omega
      · have HM := Lib.hid (placesTo_hit p k hp)
        rw [hp] at HF
        clear hp
        generalize placesTo p k = ms at *
        go_wp2_with fail
        refine HF.out.mono ?_
        rintro e wq ⟨rfl, hbq⟩
        have HBq := Lib.hid (HBl.out.trans (hbq.mono hsz))
        have HOq := Lib.hid (OwnI.below (OwnI.of HO.out) hbq).1
        have hzq : w.heap.size ≤ wq.heap.size := HBq.out.size
        clear hbq
        go_wp2_with (at_builtin; refine wpList_append_own _ rfl _ _ 23 rfl w.heap.size 3 i0 (.int .i64 0) 1 8 Try.underlying23 hi hz0 hz1 hz2 rfl (by decide) _ _ _ rfl (HOq.out.alloc _) ⟨wq.heap.size, 0, none⟩ 1 1 [.int .i64 (k : Nat)] rfl rfl (cell_one_new _ _ _) (by simp [Value.oneCell']) (by unfold maxLen; omega) (by omega) (by simp; omega) ?_; intro v' w2 hown' hgrow _)
        obtain ⟨g', cap', hv'⟩ := ownsRow_succ hown'
        subst hv'
        have HO2 := Lib.hid hown'
        have HB2 := Lib.hid ((HBq.out.alloc HBq.out.size _).grown hgrow (Nat.le_trans HBq.out.size (by simp)) (fun g e => (HV.out g e).1))
        clear hown' hgrow
        go_wp2_with fail
        go_roundw
        case rel => exact ⟨k + 1, by omega, by go_num, by rw [HM.out, List.map_append, List.length_append]; exact HO2.out, HB2.out⟩
        case measure => simp [intOf]; omega
    · obtain rfl : k = n := by omega
      have HF1 := Lib.hid (show intfns.Made (placesTo p k) w (.returned u5) wr from ⟨u5, rfl, OwnI.of hown, HBl.out⟩)
      clear hown hbel
      go_wp2_with fail
      go_ret
      exact HF1.out
set_option maxRecDepth 100000 in
set_option maxHeartbeats 1000000 in
theorem where2 (fn : Nat) (he : Enters Try.prog fn) (c1 c2 : Value) (n : Nat) (p : Nat → Bool) (w : World) (hn : n ≤ 1048576)
    (HC : Hid (∀ (k : Nat) (wr : World), k < n → Below w.heap.size w wr → Calls Try.prog fn #[.int .i64 k, c1, c2] wr fun e w' => e = .returned (.bool (p k)) ∧ Below wr.heap.size wr w')) :
    Calls Try.prog 73 #[.int .i64 n, .func (.func fn) #[] #[c1, c2]] w (intfns.Made (placesTo p n) w) := by
  obtain ⟨i0, hi, hz0, hz1, hz2⟩ := info_parts mk.infoInt
  unfold Enters at he
  go_enter Try.func73, Try.ntmps73
  go_wp2_with fail
  have hown0 := (own_empty w).1
  have hb0 := below_alloc w (.cells #[] 3)
  go_loopw [5, 9] (fun v i wr => ∃ (k : Nat), k ≤ n ∧ i = .int .i64 k ∧ wr.ownsRow w.heap.size 3 1 v (placesTo p k).length ((placesTo p k).map (Value.int .i64)) ∧ Below w.heap.size w wr) (fun _ i _ => n - (intOf i).toNat)
  case atStart => exact ⟨0, Nat.zero_le _, rfl, hown0, hb0⟩
  case round =>
    obtain ⟨k, hk, rfl, hown, hbel⟩ := hrel
    have HV := Lib.hid hown.lt
    have HBl := Lib.hid hbel
    have hsz := hbel.size
    clear hown0 hb0
    by_cases hlt : k < n
    · have HO := Lib.hid hown
      have HF := Lib.hid (HC.out k wr hlt hbel)
      have hlen := placesTo_length p k
      clear hown hbel
      cases hp : p k
      · have HM := Lib.hid (placesTo_miss p k hp)
        rw [hp] at HF
        clear hp
        generalize placesTo p k = ms at *
        go_wp2_with fail
        refine HF.out.mono ?_
        rintro e wq ⟨rfl, hbq⟩
        have HBq := Lib.hid (HBl.out.trans (hbq.mono hsz))
        have HOq := Lib.hid (OwnI.below (OwnI.of HO.out) hbq).1
        clear hbq
        go_wp2_with fail
        go_roundw
        case rel => exact ⟨k + 1, by omega, by go_num, by rw [HM.out]; exact HOq.out, HBq.out⟩
        case measure => simp [intOf]; omega
      · have HM := Lib.hid (placesTo_hit p k hp)
        rw [hp] at HF
        clear hp
        generalize placesTo p k = ms at *
        go_wp2_with fail
        refine HF.out.mono ?_
        rintro e wq ⟨rfl, hbq⟩
        have HBq := Lib.hid (HBl.out.trans (hbq.mono hsz))
        have HOq := Lib.hid (OwnI.below (OwnI.of HO.out) hbq).1
        have hzq : w.heap.size ≤ wq.heap.size := HBq.out.size
        clear hbq
        go_wp2_with (at_builtin; refine wpList_append_own _ rfl _ _ 23 rfl w.heap.size 3 i0 (.int .i64 0) 1 8 Try.underlying23 hi hz0 hz1 hz2 rfl (by decide) _ _ _ rfl (HOq.out.alloc _) ⟨wq.heap.size, 0, none⟩ 1 1 [.int .i64 (k : Nat)] rfl rfl (cell_one_new _ _ _) (by simp [Value.oneCell']) (by unfold maxLen; omega) (by omega) (by simp; omega) ?_; intro v' w2 hown' hgrow _)
        obtain ⟨g', cap', hv'⟩ := ownsRow_succ hown'
        subst hv'
        have HO2 := Lib.hid hown'
        have HB2 := Lib.hid ((HBq.out.alloc HBq.out.size _).grown hgrow (Nat.le_trans HBq.out.size (by simp)) (fun g e => (HV.out g e).1))
        clear hown' hgrow
        go_wp2_with fail
        go_roundw
        case rel => exact ⟨k + 1, by omega, by go_num, by rw [HM.out, List.map_append, List.length_append]; exact HO2.out, HB2.out⟩
        case measure => simp [intOf]; omega
    · obtain rfl : k = n := by omega
      have HF1 := Lib.hid (show intfns.Made (placesTo p k) w (.returned u5) wr from ⟨u5, rfl, OwnI.of hown, HBl.out⟩)
      clear hown hbel
      go_wp2_with fail
      go_ret
      exact HF1.out
set_option maxRecDepth 100000 in
set_option maxHeartbeats 1000000 in
theorem whereB (fn : Nat) (he : Enters Try.prog fn) (c1 : Value) (n : Nat) (p : Nat → Bool) (w : World) (hn : n ≤ 1048576)
    (HC : Hid (∀ (k : Nat) (wr : World), k < n → Below w.heap.size w wr → Calls Try.prog fn #[c1, .int .i64 k] wr fun e w' => e = .returned (.bool (p k)) ∧ Below wr.heap.size wr w')) :
    Calls Try.prog 73 #[.int .i64 n, .func (.func fn) #[c1] #[]] w (intfns.Made (placesTo p n) w) := by
  obtain ⟨i0, hi, hz0, hz1, hz2⟩ := info_parts mk.infoInt
  unfold Enters at he
  go_enter Try.func73, Try.ntmps73
  go_wp2_with fail
  have hown0 := (own_empty w).1
  have hb0 := below_alloc w (.cells #[] 3)
  go_loopw [5, 9] (fun v i wr => ∃ (k : Nat), k ≤ n ∧ i = .int .i64 k ∧ wr.ownsRow w.heap.size 3 1 v (placesTo p k).length ((placesTo p k).map (Value.int .i64)) ∧ Below w.heap.size w wr) (fun _ i _ => n - (intOf i).toNat)
  case atStart => exact ⟨0, Nat.zero_le _, rfl, hown0, hb0⟩
  case round =>
    obtain ⟨k, hk, rfl, hown, hbel⟩ := hrel
    have HV := Lib.hid hown.lt
    have HBl := Lib.hid hbel
    have hsz := hbel.size
    clear hown0 hb0
    by_cases hlt : k < n
    · have HO := Lib.hid hown
      have HF := Lib.hid (HC.out k wr hlt hbel)
      have hlen := placesTo_length p k
      clear hown hbel
      cases hp : p k
      · have HM := Lib.hid (placesTo_miss p k hp)
        rw [hp] at HF
        clear hp
        generalize placesTo p k = ms at *
        go_wp2_with fail
        refine HF.out.mono ?_
        rintro e wq ⟨rfl, hbq⟩
        have HBq := Lib.hid (HBl.out.trans (hbq.mono hsz))
        have HOq := Lib.hid (OwnI.below (OwnI.of HO.out) hbq).1
        clear hbq
        go_wp2_with fail
        go_roundw
        case rel => exact ⟨k + 1, by omega, by go_num, by rw [HM.out]; exact HOq.out, HBq.out⟩
        case measure => simp [intOf]; omega
      · have HM := Lib.hid (placesTo_hit p k hp)
        rw [hp] at HF
        clear hp
        generalize placesTo p k = ms at *
        go_wp2_with fail
        refine HF.out.mono ?_
        rintro e wq ⟨rfl, hbq⟩
        have HBq := Lib.hid (HBl.out.trans (hbq.mono hsz))
        have HOq := Lib.hid (OwnI.below (OwnI.of HO.out) hbq).1
        have hzq : w.heap.size ≤ wq.heap.size := HBq.out.size
        clear hbq
        go_wp2_with (at_builtin; refine wpList_append_own _ rfl _ _ 23 rfl w.heap.size 3 i0 (.int .i64 0) 1 8 Try.underlying23 hi hz0 hz1 hz2 rfl (by decide) _ _ _ rfl (HOq.out.alloc _) ⟨wq.heap.size, 0, none⟩ 1 1 [.int .i64 (k : Nat)] rfl rfl (cell_one_new _ _ _) (by simp [Value.oneCell']) (by unfold maxLen; omega) (by omega) (by simp; omega) ?_; intro v' w2 hown' hgrow _)
        obtain ⟨g', cap', hv'⟩ := ownsRow_succ hown'
        subst hv'
        have HO2 := Lib.hid hown'
        have HB2 := Lib.hid ((HBq.out.alloc HBq.out.size _).grown hgrow (Nat.le_trans HBq.out.size (by simp)) (fun g e => (HV.out g e).1))
        clear hown' hgrow
        go_wp2_with fail
        go_roundw
        case rel => exact ⟨k + 1, by omega, by go_num, by rw [HM.out, List.map_append, List.length_append]; exact HO2.out, HB2.out⟩
        case measure => simp [intOf]; omega
    · obtain rfl : k = n := by omega
      have HF1 := Lib.hid (show intfns.Made (placesTo p k) w (.returned u5) wr from ⟨u5, rfl, OwnI.of hown, HBl.out⟩)
      clear hown hbel
      go_wp2_with fail
      go_ret
      exact HF1.out
end Go.Proofs.Ytkbcofgigfnfaaa.pwh
