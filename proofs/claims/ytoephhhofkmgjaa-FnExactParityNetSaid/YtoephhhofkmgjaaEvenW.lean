/- The walk of the model's weights of 1 and -1. -/
import Derived.Test.YtoephhhofkmgjaaNums
import Derived.Test.YtoephhhofkmgjaaOwn1
import Derived.Deep.RegionHeld3
namespace Go.Proofs.Ytoephhhofkmgjaa.evenw
open Go.RowKit own pp nums own1
set_option linter.unusedVariables false
set_option linter.unusedSimpArgs false

theorem infoInt : (Try.prog.info? 3).map (fun i => (i.zero, i.size, i.bytes)) = some (some (.int .i64 0), 1, 8) := by kernel_rfl
/-- The i-th weight. -/
def ev (t : Bool) (i : Nat) : Int := if t && i % 2 == 1 then -1 else 1
def evenL (t : Bool) (n : Nat) : List Int := (List.range n).map (ev t)
theorem evenL_length (t : Bool) (n : Nat) : (evenL t n).length = n := by simp [evenL]
theorem evenL_succ (t : Bool) (n : Nat) : evenL t (n + 1) = evenL t n ++ [ev t n] := by simp [evenL, List.range_succ]
theorem evenL_false (n : Nat) : evenL false n = List.replicate n 1 := by
  induction n with
  | zero => rfl
  | succ n ih => rw [evenL_succ, ih, List.replicate_succ']; rfl
set_option maxRecDepth 100000 in
set_option maxHeartbeats 1600000 in
theorem spec_even_false (n : Nat) (w : World) (h4 : n ≤ 4) :
    Calls Try.prog 78 #[.int .i64 n, .bool false] w (intfns.Made (evenL false n) w) := by
  obtain ⟨i0, hi, hz0, hz1, hz2⟩ := info_parts infoInt
  go_enter Try.func78, Try.ntmps78
  have hown0 := (own_empty w).1
  have hb0 := below_alloc w (.cells #[] 3)
  go_wp2_with fail
  go_loopw [5, 6] (fun v i wr => ∃ k : Nat, k ≤ n ∧ i = .int .i64 k ∧ wr.ownsRow w.heap.size 3 1 v (evenL false k).length ((evenL false k).map (Value.int .i64)) ∧ Below w.heap.size w wr) (fun _ i _ => n - (intOf i).toNat)
  case atStart => exact ⟨0, by omega, rfl, hown0, hb0⟩
  case round =>
    obtain ⟨k, hk, rfl, hown, hbel⟩ := hrel
    have HV := Lib.hid hown.lt
    clear hown0 hb0
    have hsz := hbel.size
    have HO := Lib.hid hown
    have HBl := Lib.hid hbel
    clear hown hbel
    by_cases hlt : k < n
    · have hk4 : k = 0 ∨ k = 1 ∨ k = 2 ∨ k = 3 := by omega
      rcases hk4 with rfl | rfl | rfl | rfl
      · skip
        have hlen : (evenL false 0).length ≤ 4 := by rw [evenL_length]; omega
        have HSC := Lib.hid (show (evenL false (0 + 1)).map (Value.int .i64) = (evenL false 0).map (Value.int .i64) ++ [.int .i64 (1)] from by rw [evenL_succ, List.map_append]; rfl)
        have HSL := Lib.hid (show (evenL false (0 + 1)).length = (evenL false 0).length + 1 from by rw [evenL_succ, List.length_append]; rfl)
        generalize evenL false 0 = us at *
        go_wp2_with (at_builtin; refine wpList_append_own _ rfl _ _ 33 rfl w.heap.size 3 i0 (.int .i64 0) 1 8 Try.underlying33 hi hz0 hz1 hz2 rfl (by decide) _ _ _ rfl (HO.out.alloc _) ⟨wr.heap.size, 0, none⟩ 1 1 [.int .i64 (1)] rfl rfl (cell_one_new _ _ _) (by simp [Value.oneCell']) (by unfold maxLen; omega) (by omega) (by simp; omega) ?_; intro v' w2 hown' hgrow _)
        obtain ⟨g', cap', hv'⟩ := ownsRow_succ hown'
        subst hv'
        have HO2 := Lib.hid hown'
        have HB2 := Lib.hid ((HBl.out.alloc hsz _).grown hgrow (by simp; omega) (fun g e => (HV.out g e).1))
        clear hown' hgrow
        go_wp2_with fail
        go_roundw
        case rel => exact ⟨0 + 1, by omega, by go_num, by rw [HSC.out, HSL.out]; exact HO2.out, HB2.out⟩
        case measure => simp [intOf]; omega
      · skip
        have hlen : (evenL false 1).length ≤ 4 := by rw [evenL_length]; omega
        have HSC := Lib.hid (show (evenL false (1 + 1)).map (Value.int .i64) = (evenL false 1).map (Value.int .i64) ++ [.int .i64 (1)] from by rw [evenL_succ, List.map_append]; rfl)
        have HSL := Lib.hid (show (evenL false (1 + 1)).length = (evenL false 1).length + 1 from by rw [evenL_succ, List.length_append]; rfl)
        generalize evenL false 1 = us at *
        go_wp2_with (at_builtin; refine wpList_append_own _ rfl _ _ 33 rfl w.heap.size 3 i0 (.int .i64 0) 1 8 Try.underlying33 hi hz0 hz1 hz2 rfl (by decide) _ _ _ rfl (HO.out.alloc _) ⟨wr.heap.size, 0, none⟩ 1 1 [.int .i64 (1)] rfl rfl (cell_one_new _ _ _) (by simp [Value.oneCell']) (by unfold maxLen; omega) (by omega) (by simp; omega) ?_; intro v' w2 hown' hgrow _)
        obtain ⟨g', cap', hv'⟩ := ownsRow_succ hown'
        subst hv'
        have HO2 := Lib.hid hown'
        have HB2 := Lib.hid ((HBl.out.alloc hsz _).grown hgrow (by simp; omega) (fun g e => (HV.out g e).1))
        clear hown' hgrow
        go_wp2_with fail
        go_roundw
        case rel => exact ⟨1 + 1, by omega, by go_num, by rw [HSC.out, HSL.out]; exact HO2.out, HB2.out⟩
        case measure => simp [intOf]; omega
      · skip
        have hlen : (evenL false 2).length ≤ 4 := by rw [evenL_length]; omega
        have HSC := Lib.hid (show (evenL false (2 + 1)).map (Value.int .i64) = (evenL false 2).map (Value.int .i64) ++ [.int .i64 (1)] from by rw [evenL_succ, List.map_append]; rfl)
        have HSL := Lib.hid (show (evenL false (2 + 1)).length = (evenL false 2).length + 1 from by rw [evenL_succ, List.length_append]; rfl)
        generalize evenL false 2 = us at *
        go_wp2_with (at_builtin; refine wpList_append_own _ rfl _ _ 33 rfl w.heap.size 3 i0 (.int .i64 0) 1 8 Try.underlying33 hi hz0 hz1 hz2 rfl (by decide) _ _ _ rfl (HO.out.alloc _) ⟨wr.heap.size, 0, none⟩ 1 1 [.int .i64 (1)] rfl rfl (cell_one_new _ _ _) (by simp [Value.oneCell']) (by unfold maxLen; omega) (by omega) (by simp; omega) ?_; intro v' w2 hown' hgrow _)
        obtain ⟨g', cap', hv'⟩ := ownsRow_succ hown'
        subst hv'
        have HO2 := Lib.hid hown'
        have HB2 := Lib.hid ((HBl.out.alloc hsz _).grown hgrow (by simp; omega) (fun g e => (HV.out g e).1))
        clear hown' hgrow
        go_wp2_with fail
        go_roundw
        case rel => exact ⟨2 + 1, by omega, by go_num, by rw [HSC.out, HSL.out]; exact HO2.out, HB2.out⟩
        case measure => simp [intOf]; omega
      · skip
        have hlen : (evenL false 3).length ≤ 4 := by rw [evenL_length]; omega
        have HSC := Lib.hid (show (evenL false (3 + 1)).map (Value.int .i64) = (evenL false 3).map (Value.int .i64) ++ [.int .i64 (1)] from by rw [evenL_succ, List.map_append]; rfl)
        have HSL := Lib.hid (show (evenL false (3 + 1)).length = (evenL false 3).length + 1 from by rw [evenL_succ, List.length_append]; rfl)
        generalize evenL false 3 = us at *
        go_wp2_with (at_builtin; refine wpList_append_own _ rfl _ _ 33 rfl w.heap.size 3 i0 (.int .i64 0) 1 8 Try.underlying33 hi hz0 hz1 hz2 rfl (by decide) _ _ _ rfl (HO.out.alloc _) ⟨wr.heap.size, 0, none⟩ 1 1 [.int .i64 (1)] rfl rfl (cell_one_new _ _ _) (by simp [Value.oneCell']) (by unfold maxLen; omega) (by omega) (by simp; omega) ?_; intro v' w2 hown' hgrow _)
        obtain ⟨g', cap', hv'⟩ := ownsRow_succ hown'
        subst hv'
        have HO2 := Lib.hid hown'
        have HB2 := Lib.hid ((HBl.out.alloc hsz _).grown hgrow (by simp; omega) (fun g e => (HV.out g e).1))
        clear hown' hgrow
        go_wp2_with fail
        go_roundw
        case rel => exact ⟨3 + 1, by omega, by go_num, by rw [HSC.out, HSL.out]; exact HO2.out, HB2.out⟩
        case measure => simp [intOf]; omega
    · obtain rfl : k = n := by omega
      have HF := Lib.hid (show intfns.Made (evenL false k) w (.returned u5) wr from ⟨_, rfl, OwnI.of HO.out, HBl.out⟩)
      clear HO
      go_wp2_with fail
      go_ret
      exact HF.out
set_option maxRecDepth 100000 in
set_option maxHeartbeats 1600000 in
theorem spec_even_true (n : Nat) (w : World) (h4 : n ≤ 4) :
    Calls Try.prog 78 #[.int .i64 n, .bool true] w (intfns.Made (evenL true n) w) := by
  obtain ⟨i0, hi, hz0, hz1, hz2⟩ := info_parts infoInt
  go_enter Try.func78, Try.ntmps78
  have hown0 := (own_empty w).1
  have hb0 := below_alloc w (.cells #[] 3)
  go_wp2_with fail
  go_loopw [5, 6] (fun v i wr => ∃ k : Nat, k ≤ n ∧ i = .int .i64 k ∧ wr.ownsRow w.heap.size 3 1 v (evenL true k).length ((evenL true k).map (Value.int .i64)) ∧ Below w.heap.size w wr) (fun _ i _ => n - (intOf i).toNat)
  case atStart => exact ⟨0, by omega, rfl, hown0, hb0⟩
  case round =>
    obtain ⟨k, hk, rfl, hown, hbel⟩ := hrel
    have HV := Lib.hid hown.lt
    clear hown0 hb0
    have hsz := hbel.size
    have HO := Lib.hid hown
    have HBl := Lib.hid hbel
    clear hown hbel
    by_cases hlt : k < n
    · have hk4 : k = 0 ∨ k = 1 ∨ k = 2 ∨ k = 3 := by omega
      rcases hk4 with rfl | rfl | rfl | rfl
      · skip
        have hlen : (evenL true 0).length ≤ 4 := by rw [evenL_length]; omega
        have HSC := Lib.hid (show (evenL true (0 + 1)).map (Value.int .i64) = (evenL true 0).map (Value.int .i64) ++ [.int .i64 (1)] from by rw [evenL_succ, List.map_append]; rfl)
        have HSL := Lib.hid (show (evenL true (0 + 1)).length = (evenL true 0).length + 1 from by rw [evenL_succ, List.length_append]; rfl)
        generalize evenL true 0 = us at *
        go_wp2_with (at_builtin; refine wpList_append_own _ rfl _ _ 33 rfl w.heap.size 3 i0 (.int .i64 0) 1 8 Try.underlying33 hi hz0 hz1 hz2 rfl (by decide) _ _ _ rfl (HO.out.alloc _) ⟨wr.heap.size, 0, none⟩ 1 1 [.int .i64 (1)] rfl rfl (cell_one_new _ _ _) (by simp [Value.oneCell']) (by unfold maxLen; omega) (by omega) (by simp; omega) ?_; intro v' w2 hown' hgrow _)
        obtain ⟨g', cap', hv'⟩ := ownsRow_succ hown'
        subst hv'
        have HO2 := Lib.hid hown'
        have HB2 := Lib.hid ((HBl.out.alloc hsz _).grown hgrow (by simp; omega) (fun g e => (HV.out g e).1))
        clear hown' hgrow
        go_wp2_with fail
        go_roundw
        case rel => exact ⟨0 + 1, by omega, by go_num, by rw [HSC.out, HSL.out]; exact HO2.out, HB2.out⟩
        case measure => simp [intOf]; omega
      · skip
        have hlen : (evenL true 1).length ≤ 4 := by rw [evenL_length]; omega
        have HSC := Lib.hid (show (evenL true (1 + 1)).map (Value.int .i64) = (evenL true 1).map (Value.int .i64) ++ [.int .i64 (-1)] from by rw [evenL_succ, List.map_append]; rfl)
        have HSL := Lib.hid (show (evenL true (1 + 1)).length = (evenL true 1).length + 1 from by rw [evenL_succ, List.length_append]; rfl)
        generalize evenL true 1 = us at *
        go_wp2_with (at_builtin; refine wpList_append_own _ rfl _ _ 33 rfl w.heap.size 3 i0 (.int .i64 0) 1 8 Try.underlying33 hi hz0 hz1 hz2 rfl (by decide) _ _ _ rfl (HO.out.alloc _) ⟨wr.heap.size, 0, none⟩ 1 1 [.int .i64 (-1)] rfl rfl (cell_one_new _ _ _) (by simp [Value.oneCell']) (by unfold maxLen; omega) (by omega) (by simp; omega) ?_; intro v' w2 hown' hgrow _)
        obtain ⟨g', cap', hv'⟩ := ownsRow_succ hown'
        subst hv'
        have HO2 := Lib.hid hown'
        have HB2 := Lib.hid ((HBl.out.alloc hsz _).grown hgrow (by simp; omega) (fun g e => (HV.out g e).1))
        clear hown' hgrow
        go_wp2_with fail
        go_roundw
        case rel => exact ⟨1 + 1, by omega, by go_num, by rw [HSC.out, HSL.out]; exact HO2.out, HB2.out⟩
        case measure => simp [intOf]; omega
      · skip
        have hlen : (evenL true 2).length ≤ 4 := by rw [evenL_length]; omega
        have HSC := Lib.hid (show (evenL true (2 + 1)).map (Value.int .i64) = (evenL true 2).map (Value.int .i64) ++ [.int .i64 (1)] from by rw [evenL_succ, List.map_append]; rfl)
        have HSL := Lib.hid (show (evenL true (2 + 1)).length = (evenL true 2).length + 1 from by rw [evenL_succ, List.length_append]; rfl)
        generalize evenL true 2 = us at *
        go_wp2_with (at_builtin; refine wpList_append_own _ rfl _ _ 33 rfl w.heap.size 3 i0 (.int .i64 0) 1 8 Try.underlying33 hi hz0 hz1 hz2 rfl (by decide) _ _ _ rfl (HO.out.alloc _) ⟨wr.heap.size, 0, none⟩ 1 1 [.int .i64 (1)] rfl rfl (cell_one_new _ _ _) (by simp [Value.oneCell']) (by unfold maxLen; omega) (by omega) (by simp; omega) ?_; intro v' w2 hown' hgrow _)
        obtain ⟨g', cap', hv'⟩ := ownsRow_succ hown'
        subst hv'
        have HO2 := Lib.hid hown'
        have HB2 := Lib.hid ((HBl.out.alloc hsz _).grown hgrow (by simp; omega) (fun g e => (HV.out g e).1))
        clear hown' hgrow
        go_wp2_with fail
        go_roundw
        case rel => exact ⟨2 + 1, by omega, by go_num, by rw [HSC.out, HSL.out]; exact HO2.out, HB2.out⟩
        case measure => simp [intOf]; omega
      · skip
        have hlen : (evenL true 3).length ≤ 4 := by rw [evenL_length]; omega
        have HSC := Lib.hid (show (evenL true (3 + 1)).map (Value.int .i64) = (evenL true 3).map (Value.int .i64) ++ [.int .i64 (-1)] from by rw [evenL_succ, List.map_append]; rfl)
        have HSL := Lib.hid (show (evenL true (3 + 1)).length = (evenL true 3).length + 1 from by rw [evenL_succ, List.length_append]; rfl)
        generalize evenL true 3 = us at *
        go_wp2_with (at_builtin; refine wpList_append_own _ rfl _ _ 33 rfl w.heap.size 3 i0 (.int .i64 0) 1 8 Try.underlying33 hi hz0 hz1 hz2 rfl (by decide) _ _ _ rfl (HO.out.alloc _) ⟨wr.heap.size, 0, none⟩ 1 1 [.int .i64 (-1)] rfl rfl (cell_one_new _ _ _) (by simp [Value.oneCell']) (by unfold maxLen; omega) (by omega) (by simp; omega) ?_; intro v' w2 hown' hgrow _)
        obtain ⟨g', cap', hv'⟩ := ownsRow_succ hown'
        subst hv'
        have HO2 := Lib.hid hown'
        have HB2 := Lib.hid ((HBl.out.alloc hsz _).grown hgrow (by simp; omega) (fun g e => (HV.out g e).1))
        clear hown' hgrow
        go_wp2_with fail
        go_roundw
        case rel => exact ⟨3 + 1, by omega, by go_num, by rw [HSC.out, HSL.out]; exact HO2.out, HB2.out⟩
        case measure => simp [intOf]; omega
    · obtain rfl : k = n := by omega
      have HF := Lib.hid (show intfns.Made (evenL true k) w (.returned u5) wr from ⟨_, rfl, OwnI.of HO.out, HBl.out⟩)
      clear HO
      go_wp2_with fail
      go_ret
      exact HF.out
end Go.Proofs.Ytoephhhofkmgjaa.evenw
