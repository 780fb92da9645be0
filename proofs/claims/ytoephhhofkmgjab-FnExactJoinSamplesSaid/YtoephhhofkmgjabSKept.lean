/- The walks of the model's and the program's tests of made samples. -/
import Derived.Test.YtoephhhofkmgjabSamplesT
import Derived.Test.YtoephhhofkmgjabSamplesV
import Derived.Test.YtoephhhofkmgjabTurnLabels
namespace Go.Proofs.Ytoephhhofkmgjab.skept
open Go.RowKit own pp nums samplesv samplest
set_option linter.unusedVariables false
set_option maxHeartbeats 1000000 in
theorem spec_no (a : Option Addr) (rows : List (List Int)) (c : Nat) (a' : Option Addr) (zs : List Int) (c' : Nat) (w : World) (hr : grid.Reads w a rows) (hz : ints.Reads .i64 w a' zs) (hn : rows.length ≤ 1048576) (hk : zs.length ≤ 1048576) (hm : ∀ r ∈ rows, r.length ≤ 1048576) (h : Hid (sampleB rows zs = false)) :
    Calls Try.prog 60 #[.agg #[.slice a rows.length c, .slice a' zs.length c']] w (fun e w' => e = .returned (.tuple #[.agg #[.slice none 0 0, .slice none 0 0], .bool false]) ∧ Below w.heap.size w w') := by
  have HMM := Lib.hid hm
  clear hm
  have Hhr := Lib.hid hr
  have Hhz := Lib.hid hz
  clear hr hz
  go_enter Try.func60, Try.ntmps60
  go_wp2_with fail
  have x0_0 : (w.alloc (.cells #[.slice a rows.length c, .slice a' zs.length c'] 56)).cell? ⟨w.heap.size, 0, none⟩ = some (.slice a rows.length c) := cell_new _ _ _ (by simp) rfl
  have x0_1 : (w.alloc (.cells #[.slice a rows.length c, .slice a' zs.length c'] 56)).cell? ⟨w.heap.size, 1, none⟩ = some (.slice a' zs.length c') := cell_new _ _ _ (by simp) rfl
  have HB0 := Lib.hid (below_alloc w (.cells #[.slice a rows.length c, .slice a' zs.length c'] 56))
  replace x0_0 := cell_old (.cells #[.slice none 0 0, .slice none 0 0] 56) x0_0
  replace x0_1 := cell_old (.cells #[.slice none 0 0, .slice none 0 0] 56) x0_1
  have x1_0 : ((w.alloc (.cells #[.slice a rows.length c, .slice a' zs.length c'] 56)).alloc (.cells #[.slice none 0 0, .slice none 0 0] 56)).cell? ⟨w.heap.size + 1, 0, none⟩ = some (.slice none 0 0) := cell_new _ _ _ (by simp) rfl
  have x1_1 : ((w.alloc (.cells #[.slice a rows.length c, .slice a' zs.length c'] 56)).alloc (.cells #[.slice none 0 0, .slice none 0 0] 56)).cell? ⟨w.heap.size + 1, 1, none⟩ = some (.slice none 0 0) := cell_new _ _ _ (by simp) rfl
  have f1_0 : ((w.alloc (.cells #[.slice a rows.length c, .slice a' zs.length c'] 56)).alloc (.cells #[.slice none 0 0, .slice none 0 0] 56)).frozen? ⟨w.heap.size + 1, 0, none⟩ = false := fro_new _ _ _ (by simp)
  have f1_1 : ((w.alloc (.cells #[.slice a rows.length c, .slice a' zs.length c'] 56)).alloc (.cells #[.slice none 0 0, .slice none 0 0] 56)).frozen? ⟨w.heap.size + 1, 1, none⟩ = false := fro_new _ _ _ (by simp)
  replace HB0 := Lib.hid (HB0.out.alloc (by simp) (.cells #[.slice none 0 0, .slice none 0 0] 56))
  have s0 : w.heap.size + 2 ≤ ((w.alloc (.cells #[.slice a rows.length c, .slice a' zs.length c'] 56)).alloc (.cells #[.slice none 0 0, .slice none 0 0] 56)).heap.size := by simp
  generalize hw : ((w.alloc (.cells #[.slice a rows.length c, .slice a' zs.length c'] 56)).alloc (.cells #[.slice none 0 0, .slice none 0 0] 56)) = w0 at *
  clear hw
  have n0_0 : w.heap.size < w0.heap.size := by omega
  have n0_1 : w.heap.size + 1 < w0.heap.size := by omega
  refine (spec_sample a rows c a' zs c' _ (Hhr.out.below HB0.out) (Hhz.out.below HB0.out) hn hk HMM.out false h).mono ?_
  rintro e w1 ⟨rfl, hb⟩
  have s1 : w0.heap.size ≤ w1.heap.size := hb.size
  have n1_0 : w.heap.size < w1.heap.size := by omega
  have n1_1 : w.heap.size + 1 < w1.heap.size := by omega
  replace x0_0 := cell_below hb x0_0 (by omega)
  replace x0_1 := cell_below hb x0_1 (by omega)
  replace x1_0 := cell_below hb x1_0 (by omega)
  replace x1_1 := cell_below hb x1_1 (by omega)
  replace f1_0 := fro_below hb f1_0 (by omega)
  replace f1_1 := fro_below hb f1_1 (by omega)
  have HB1 := Lib.hid (HB0.out.trans (hb.mono (by omega)))
  clear hb
  go_wp2_with fail
  refine bodyPost_ret (v := .tuple #[.agg #[.slice none 0 0, .slice none 0 0], .bool false]) (by simp [results, Try.results60, go_sem, x1_0, x1_1]) rfl ⟨rfl, ?_⟩
  exact ((HB1.out.setCell (by simp) _).setCell (by simp) _)
set_option maxHeartbeats 1000000 in
theorem spec_yes (a : Option Addr) (rows : List (List Int)) (c : Nat) (a' : Option Addr) (zs : List Int) (c' : Nat) (w : World) (hr : grid.Reads w a rows) (hz : ints.Reads .i64 w a' zs) (hn : rows.length ≤ 1048576) (hk : zs.length ≤ 1048576) (hm : ∀ r ∈ rows, r.length ≤ 1048576) (h : Hid (sampleB rows zs = true)) :
    Calls Try.prog 60 #[.agg #[.slice a rows.length c, .slice a' zs.length c']] w (fun e w' => e = .returned (.tuple #[.agg #[.slice a rows.length c, .slice a' zs.length c'], .bool true]) ∧ Below w.heap.size w w') := by
  have HMM := Lib.hid hm
  clear hm
  have Hhr := Lib.hid hr
  have Hhz := Lib.hid hz
  clear hr hz
  go_enter Try.func60, Try.ntmps60
  go_wp2_with fail
  have x0_0 : (w.alloc (.cells #[.slice a rows.length c, .slice a' zs.length c'] 56)).cell? ⟨w.heap.size, 0, none⟩ = some (.slice a rows.length c) := cell_new _ _ _ (by simp) rfl
  have x0_1 : (w.alloc (.cells #[.slice a rows.length c, .slice a' zs.length c'] 56)).cell? ⟨w.heap.size, 1, none⟩ = some (.slice a' zs.length c') := cell_new _ _ _ (by simp) rfl
  have HB0 := Lib.hid (below_alloc w (.cells #[.slice a rows.length c, .slice a' zs.length c'] 56))
  replace x0_0 := cell_old (.cells #[.slice none 0 0, .slice none 0 0] 56) x0_0
  replace x0_1 := cell_old (.cells #[.slice none 0 0, .slice none 0 0] 56) x0_1
  have x1_0 : ((w.alloc (.cells #[.slice a rows.length c, .slice a' zs.length c'] 56)).alloc (.cells #[.slice none 0 0, .slice none 0 0] 56)).cell? ⟨w.heap.size + 1, 0, none⟩ = some (.slice none 0 0) := cell_new _ _ _ (by simp) rfl
  have x1_1 : ((w.alloc (.cells #[.slice a rows.length c, .slice a' zs.length c'] 56)).alloc (.cells #[.slice none 0 0, .slice none 0 0] 56)).cell? ⟨w.heap.size + 1, 1, none⟩ = some (.slice none 0 0) := cell_new _ _ _ (by simp) rfl
  have f1_0 : ((w.alloc (.cells #[.slice a rows.length c, .slice a' zs.length c'] 56)).alloc (.cells #[.slice none 0 0, .slice none 0 0] 56)).frozen? ⟨w.heap.size + 1, 0, none⟩ = false := fro_new _ _ _ (by simp)
  have f1_1 : ((w.alloc (.cells #[.slice a rows.length c, .slice a' zs.length c'] 56)).alloc (.cells #[.slice none 0 0, .slice none 0 0] 56)).frozen? ⟨w.heap.size + 1, 1, none⟩ = false := fro_new _ _ _ (by simp)
  replace HB0 := Lib.hid (HB0.out.alloc (by simp) (.cells #[.slice none 0 0, .slice none 0 0] 56))
  have s0 : w.heap.size + 2 ≤ ((w.alloc (.cells #[.slice a rows.length c, .slice a' zs.length c'] 56)).alloc (.cells #[.slice none 0 0, .slice none 0 0] 56)).heap.size := by simp
  generalize hw : ((w.alloc (.cells #[.slice a rows.length c, .slice a' zs.length c'] 56)).alloc (.cells #[.slice none 0 0, .slice none 0 0] 56)) = w0 at *
  clear hw
  have n0_0 : w.heap.size < w0.heap.size := by omega
  have n0_1 : w.heap.size + 1 < w0.heap.size := by omega
  refine (spec_sample a rows c a' zs c' _ (Hhr.out.below HB0.out) (Hhz.out.below HB0.out) hn hk HMM.out true h).mono ?_
  rintro e w1 ⟨rfl, hb⟩
  have s1 : w0.heap.size ≤ w1.heap.size := hb.size
  have n1_0 : w.heap.size < w1.heap.size := by omega
  have n1_1 : w.heap.size + 1 < w1.heap.size := by omega
  replace x0_0 := cell_below hb x0_0 (by omega)
  replace x0_1 := cell_below hb x0_1 (by omega)
  replace x1_0 := cell_below hb x1_0 (by omega)
  replace x1_1 := cell_below hb x1_1 (by omega)
  replace f1_0 := fro_below hb f1_0 (by omega)
  replace f1_1 := fro_below hb f1_1 (by omega)
  have HB1 := Lib.hid (HB0.out.trans (hb.mono (by omega)))
  clear hb
  go_wp2_with fail
  refine bodyPost_ret (v := .tuple #[.agg #[.slice a rows.length c, .slice a' zs.length c'], .bool true]) (by simp [results, Try.results60, go_sem, x1_0, x1_1]) rfl ⟨rfl, ?_⟩
  exact ((HB1.out.setCell (by simp) _).setCell (by simp) _)
set_option maxHeartbeats 1000000 in
theorem impl_no (a : Option Addr) (rows : List (List Int)) (c : Nat) (a' : Option Addr) (zs : List Int) (c' : Nat) (w : World) (hr : grid.Reads w a rows) (hz : ints.Reads .i64 w a' zs) (hn : rows.length ≤ 1048576) (hk : zs.length ≤ 1048576) (hm : ∀ r ∈ rows, r.length ≤ 1048576) (h : Hid (sampleB rows zs = false)) :
    Calls Try.prog 67 #[.agg #[.slice a rows.length c, .slice a' zs.length c']] w (fun e w' => e = .returned (.tuple #[.agg #[.slice none 0 0, .slice none 0 0], .bool false]) ∧ Below w.heap.size w w') := by
  have HMM := Lib.hid hm
  clear hm
  have Hhr := Lib.hid hr
  have Hhz := Lib.hid hz
  clear hr hz
  go_enter Try.func67, Try.ntmps67
  go_wp2_with fail
  have x0_0 : (w.alloc (.cells #[.slice a rows.length c, .slice a' zs.length c'] 56)).cell? ⟨w.heap.size, 0, none⟩ = some (.slice a rows.length c) := cell_new _ _ _ (by simp) rfl
  have x0_1 : (w.alloc (.cells #[.slice a rows.length c, .slice a' zs.length c'] 56)).cell? ⟨w.heap.size, 1, none⟩ = some (.slice a' zs.length c') := cell_new _ _ _ (by simp) rfl
  have HB0 := Lib.hid (below_alloc w (.cells #[.slice a rows.length c, .slice a' zs.length c'] 56))
  replace x0_0 := cell_old (.cells #[.slice none 0 0, .slice none 0 0] 56) x0_0
  replace x0_1 := cell_old (.cells #[.slice none 0 0, .slice none 0 0] 56) x0_1
  have x1_0 : ((w.alloc (.cells #[.slice a rows.length c, .slice a' zs.length c'] 56)).alloc (.cells #[.slice none 0 0, .slice none 0 0] 56)).cell? ⟨w.heap.size + 1, 0, none⟩ = some (.slice none 0 0) := cell_new _ _ _ (by simp) rfl
  have x1_1 : ((w.alloc (.cells #[.slice a rows.length c, .slice a' zs.length c'] 56)).alloc (.cells #[.slice none 0 0, .slice none 0 0] 56)).cell? ⟨w.heap.size + 1, 1, none⟩ = some (.slice none 0 0) := cell_new _ _ _ (by simp) rfl
  have f1_0 : ((w.alloc (.cells #[.slice a rows.length c, .slice a' zs.length c'] 56)).alloc (.cells #[.slice none 0 0, .slice none 0 0] 56)).frozen? ⟨w.heap.size + 1, 0, none⟩ = false := fro_new _ _ _ (by simp)
  have f1_1 : ((w.alloc (.cells #[.slice a rows.length c, .slice a' zs.length c'] 56)).alloc (.cells #[.slice none 0 0, .slice none 0 0] 56)).frozen? ⟨w.heap.size + 1, 1, none⟩ = false := fro_new _ _ _ (by simp)
  replace HB0 := Lib.hid (HB0.out.alloc (by simp) (.cells #[.slice none 0 0, .slice none 0 0] 56))
  have s0 : w.heap.size + 2 ≤ ((w.alloc (.cells #[.slice a rows.length c, .slice a' zs.length c'] 56)).alloc (.cells #[.slice none 0 0, .slice none 0 0] 56)).heap.size := by simp
  generalize hw : ((w.alloc (.cells #[.slice a rows.length c, .slice a' zs.length c'] 56)).alloc (.cells #[.slice none 0 0, .slice none 0 0] 56)) = w0 at *
  clear hw
  have n0_0 : w.heap.size < w0.heap.size := by omega
  have n0_1 : w.heap.size + 1 < w0.heap.size := by omega
  refine (impl_sample a rows c a' zs c' _ (Hhr.out.below HB0.out) (Hhz.out.below HB0.out) hn hk HMM.out false h).mono ?_
  rintro e w1 ⟨rfl, hb⟩
  have s1 : w0.heap.size ≤ w1.heap.size := hb.size
  have n1_0 : w.heap.size < w1.heap.size := by omega
  have n1_1 : w.heap.size + 1 < w1.heap.size := by omega
  replace x0_0 := cell_below hb x0_0 (by omega)
  replace x0_1 := cell_below hb x0_1 (by omega)
  replace x1_0 := cell_below hb x1_0 (by omega)
  replace x1_1 := cell_below hb x1_1 (by omega)
  replace f1_0 := fro_below hb f1_0 (by omega)
  replace f1_1 := fro_below hb f1_1 (by omega)
  have HB1 := Lib.hid (HB0.out.trans (hb.mono (by omega)))
  clear hb
  go_wp2_with fail
  refine bodyPost_ret (v := .tuple #[.agg #[.slice none 0 0, .slice none 0 0], .bool false]) (by simp [results, Try.results67, go_sem, x1_0, x1_1]) rfl ⟨rfl, ?_⟩
  exact ((HB1.out.setCell (by simp) _).setCell (by simp) _)
set_option maxHeartbeats 1000000 in
theorem impl_yes (a : Option Addr) (rows : List (List Int)) (c : Nat) (a' : Option Addr) (zs : List Int) (c' : Nat) (w : World) (hr : grid.Reads w a rows) (hz : ints.Reads .i64 w a' zs) (hn : rows.length ≤ 1048576) (hk : zs.length ≤ 1048576) (hm : ∀ r ∈ rows, r.length ≤ 1048576) (h : Hid (sampleB rows zs = true)) :
    Calls Try.prog 67 #[.agg #[.slice a rows.length c, .slice a' zs.length c']] w (fun e w' => e = .returned (.tuple #[.agg #[.slice a rows.length c, .slice a' zs.length c'], .bool true]) ∧ Below w.heap.size w w') := by
  have HMM := Lib.hid hm
  clear hm
  have Hhr := Lib.hid hr
  have Hhz := Lib.hid hz
  clear hr hz
  go_enter Try.func67, Try.ntmps67
  go_wp2_with fail
  have x0_0 : (w.alloc (.cells #[.slice a rows.length c, .slice a' zs.length c'] 56)).cell? ⟨w.heap.size, 0, none⟩ = some (.slice a rows.length c) := cell_new _ _ _ (by simp) rfl
  have x0_1 : (w.alloc (.cells #[.slice a rows.length c, .slice a' zs.length c'] 56)).cell? ⟨w.heap.size, 1, none⟩ = some (.slice a' zs.length c') := cell_new _ _ _ (by simp) rfl
  have HB0 := Lib.hid (below_alloc w (.cells #[.slice a rows.length c, .slice a' zs.length c'] 56))
  replace x0_0 := cell_old (.cells #[.slice none 0 0, .slice none 0 0] 56) x0_0
  replace x0_1 := cell_old (.cells #[.slice none 0 0, .slice none 0 0] 56) x0_1
  have x1_0 : ((w.alloc (.cells #[.slice a rows.length c, .slice a' zs.length c'] 56)).alloc (.cells #[.slice none 0 0, .slice none 0 0] 56)).cell? ⟨w.heap.size + 1, 0, none⟩ = some (.slice none 0 0) := cell_new _ _ _ (by simp) rfl
  have x1_1 : ((w.alloc (.cells #[.slice a rows.length c, .slice a' zs.length c'] 56)).alloc (.cells #[.slice none 0 0, .slice none 0 0] 56)).cell? ⟨w.heap.size + 1, 1, none⟩ = some (.slice none 0 0) := cell_new _ _ _ (by simp) rfl
  have f1_0 : ((w.alloc (.cells #[.slice a rows.length c, .slice a' zs.length c'] 56)).alloc (.cells #[.slice none 0 0, .slice none 0 0] 56)).frozen? ⟨w.heap.size + 1, 0, none⟩ = false := fro_new _ _ _ (by simp)
  have f1_1 : ((w.alloc (.cells #[.slice a rows.length c, .slice a' zs.length c'] 56)).alloc (.cells #[.slice none 0 0, .slice none 0 0] 56)).frozen? ⟨w.heap.size + 1, 1, none⟩ = false := fro_new _ _ _ (by simp)
  replace HB0 := Lib.hid (HB0.out.alloc (by simp) (.cells #[.slice none 0 0, .slice none 0 0] 56))
  have s0 : w.heap.size + 2 ≤ ((w.alloc (.cells #[.slice a rows.length c, .slice a' zs.length c'] 56)).alloc (.cells #[.slice none 0 0, .slice none 0 0] 56)).heap.size := by simp
  generalize hw : ((w.alloc (.cells #[.slice a rows.length c, .slice a' zs.length c'] 56)).alloc (.cells #[.slice none 0 0, .slice none 0 0] 56)) = w0 at *
  clear hw
  have n0_0 : w.heap.size < w0.heap.size := by omega
  have n0_1 : w.heap.size + 1 < w0.heap.size := by omega
  refine (impl_sample a rows c a' zs c' _ (Hhr.out.below HB0.out) (Hhz.out.below HB0.out) hn hk HMM.out true h).mono ?_
  rintro e w1 ⟨rfl, hb⟩
  have s1 : w0.heap.size ≤ w1.heap.size := hb.size
  have n1_0 : w.heap.size < w1.heap.size := by omega
  have n1_1 : w.heap.size + 1 < w1.heap.size := by omega
  replace x0_0 := cell_below hb x0_0 (by omega)
  replace x0_1 := cell_below hb x0_1 (by omega)
  replace x1_0 := cell_below hb x1_0 (by omega)
  replace x1_1 := cell_below hb x1_1 (by omega)
  replace f1_0 := fro_below hb f1_0 (by omega)
  replace f1_1 := fro_below hb f1_1 (by omega)
  have HB1 := Lib.hid (HB0.out.trans (hb.mono (by omega)))
  clear hb
  go_wp2_with fail
  refine bodyPost_ret (v := .tuple #[.agg #[.slice a rows.length c, .slice a' zs.length c'], .bool true]) (by simp [results, Try.results67, go_sem, x1_0, x1_1]) rfl ⟨rfl, ?_⟩
  exact ((HB1.out.setCell (by simp) _).setCell (by simp) _)
end Go.Proofs.Ytoephhhofkmgjab.skept
