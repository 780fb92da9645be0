/- The walks of what keeps a plane if it is one. -/
import Derived.Test.YtkbcofgigfnfaaaMinus
import Derived.Deep.RegionWith
namespace Go.Proofs.Ytkbcofgigfnfaaa.kept
open Go.RowKit own pp nums planes minus
set_option linter.unusedVariables false

set_option maxHeartbeats 1000000 in
theorem spec_kept_no (a : Option Addr) (zs : List Int) (c : Nat) (b : Int) (w : World) (hr : ints.Reads .i64 w a zs) (hn : zs.length ≤ 1048576) (h : Hid (planeB zs b = false)) :
    Calls Try.prog 83 #[.agg #[.slice a zs.length c, .int .i64 b]] w (fun e w' => e = .returned (.tuple #[.agg #[.slice none 0 0, .int .i64 0], .bool false]) ∧ Below w.heap.size w w') := by
  have Hhr := Lib.hid hr
  clear hr
  go_enter Try.func83, Try.ntmps83
  go_wp2_with fail
  have x0_0 : (w.alloc (.cells #[.slice a zs.length c, .int .i64 b] 45)).cell? ⟨w.heap.size, 0, none⟩ = some (.slice a zs.length c) := cell_new _ _ _ (by simp) rfl
  have x0_1 : (w.alloc (.cells #[.slice a zs.length c, .int .i64 b] 45)).cell? ⟨w.heap.size, 1, none⟩ = some (.int .i64 b) := cell_new _ _ _ (by simp) rfl
  have HB0 := Lib.hid (below_alloc w (.cells #[.slice a zs.length c, .int .i64 b] 45))
  replace x0_0 := cell_old (.cells #[.slice none 0 0, .int .i64 0] 45) x0_0
  replace x0_1 := cell_old (.cells #[.slice none 0 0, .int .i64 0] 45) x0_1
  have x1_0 : ((w.alloc (.cells #[.slice a zs.length c, .int .i64 b] 45)).alloc (.cells #[.slice none 0 0, .int .i64 0] 45)).cell? ⟨w.heap.size + 1, 0, none⟩ = some (.slice none 0 0) := cell_new _ _ _ (by simp) rfl
  have x1_1 : ((w.alloc (.cells #[.slice a zs.length c, .int .i64 b] 45)).alloc (.cells #[.slice none 0 0, .int .i64 0] 45)).cell? ⟨w.heap.size + 1, 1, none⟩ = some (.int .i64 0) := cell_new _ _ _ (by simp) rfl
  have f1_0 : ((w.alloc (.cells #[.slice a zs.length c, .int .i64 b] 45)).alloc (.cells #[.slice none 0 0, .int .i64 0] 45)).frozen? ⟨w.heap.size + 1, 0, none⟩ = false := fro_new _ _ _ (by simp)
  have f1_1 : ((w.alloc (.cells #[.slice a zs.length c, .int .i64 b] 45)).alloc (.cells #[.slice none 0 0, .int .i64 0] 45)).frozen? ⟨w.heap.size + 1, 1, none⟩ = false := fro_new _ _ _ (by simp)
  replace HB0 := Lib.hid (HB0.out.alloc (by simp) (.cells #[.slice none 0 0, .int .i64 0] 45))
  have s0 : w.heap.size + 2 ≤ ((w.alloc (.cells #[.slice a zs.length c, .int .i64 b] 45)).alloc (.cells #[.slice none 0 0, .int .i64 0] 45)).heap.size := by simp
  generalize hw : ((w.alloc (.cells #[.slice a zs.length c, .int .i64 b] 45)).alloc (.cells #[.slice none 0 0, .int .i64 0] 45)) = w0 at *
  clear hw
  have n0_0 : w.heap.size < w0.heap.size := by omega
  have n0_1 : w.heap.size + 1 < w0.heap.size := by omega
  refine (spec_plane a zs c b _ (Hhr.out.below HB0.out) hn false h).mono ?_
  rintro e w1 ⟨rfl, hb⟩
  have s1 : w0.heap.size ≤ w1.heap.size := hb.size
  have n1_0 : w.heap.size < w1.heap.size := by omega
  have n1_1 : w.heap.size + 1 < w1.heap.size := by omega
  replace x0_0 := cell_below hb x0_0 (by omega)
  replace x0_1 := cell_below hb x0_1 (by omega)
  replace x1_0 := cell_below hb x1_0 (by omega)
  replace x1_1 := cell_below hb x1_1 (by omega)
  replace f1_0 := fro_below hb f1_0 (by omega)
  replace f1_1 := fro_below hb f1_1 (by omega)
  have HB1 := Lib.hid (HB0.out.trans (hb.mono (by omega)))
  clear hb
  go_wp2_with fail
  refine bodyPost_ret (v := .tuple #[.agg #[.slice none 0 0, .int .i64 0], .bool false]) (by simp [results, Try.results83, go_sem, x1_0, x1_1]) rfl ⟨rfl, ?_⟩
  exact ((HB1.out.setCell (by simp) _).setCell (by simp) _)
set_option maxHeartbeats 1000000 in
theorem spec_kept_yes (a : Option Addr) (zs : List Int) (c : Nat) (b : Int) (w : World) (hr : ints.Reads .i64 w a zs) (hn : zs.length ≤ 1048576) (h : Hid (planeB zs b = true)) :
    Calls Try.prog 83 #[.agg #[.slice a zs.length c, .int .i64 b]] w (fun e w' => e = .returned (.tuple #[.agg #[.slice a zs.length c, .int .i64 b], .bool true]) ∧ Below w.heap.size w w') := by
  have Hhr := Lib.hid hr
  clear hr
  go_enter Try.func83, Try.ntmps83
  go_wp2_with fail
  have x0_0 : (w.alloc (.cells #[.slice a zs.length c, .int .i64 b] 45)).cell? ⟨w.heap.size, 0, none⟩ = some (.slice a zs.length c) := cell_new _ _ _ (by simp) rfl
  have x0_1 : (w.alloc (.cells #[.slice a zs.length c, .int .i64 b] 45)).cell? ⟨w.heap.size, 1, none⟩ = some (.int .i64 b) := cell_new _ _ _ (by simp) rfl
  have HB0 := Lib.hid (below_alloc w (.cells #[.slice a zs.length c, .int .i64 b] 45))
  replace x0_0 := cell_old (.cells #[.slice none 0 0, .int .i64 0] 45) x0_0
  replace x0_1 := cell_old (.cells #[.slice none 0 0, .int .i64 0] 45) x0_1
  have x1_0 : ((w.alloc (.cells #[.slice a zs.length c, .int .i64 b] 45)).alloc (.cells #[.slice none 0 0, .int .i64 0] 45)).cell? ⟨w.heap.size + 1, 0, none⟩ = some (.slice none 0 0) := cell_new _ _ _ (by simp) rfl
  have x1_1 : ((w.alloc (.cells #[.slice a zs.length c, .int .i64 b] 45)).alloc (.cells #[.slice none 0 0, .int .i64 0] 45)).cell? ⟨w.heap.size + 1, 1, none⟩ = some (.int .i64 0) := cell_new _ _ _ (by simp) rfl
  have f1_0 : ((w.alloc (.cells #[.slice a zs.length c, .int .i64 b] 45)).alloc (.cells #[.slice none 0 0, .int .i64 0] 45)).frozen? ⟨w.heap.size + 1, 0, none⟩ = false := fro_new _ _ _ (by simp)
  have f1_1 : ((w.alloc (.cells #[.slice a zs.length c, .int .i64 b] 45)).alloc (.cells #[.slice none 0 0, .int .i64 0] 45)).frozen? ⟨w.heap.size + 1, 1, none⟩ = false := fro_new _ _ _ (by simp)
  replace HB0 := Lib.hid (HB0.out.alloc (by simp) (.cells #[.slice none 0 0, .int .i64 0] 45))
  have s0 : w.heap.size + 2 ≤ ((w.alloc (.cells #[.slice a zs.length c, .int .i64 b] 45)).alloc (.cells #[.slice none 0 0, .int .i64 0] 45)).heap.size := by simp
  generalize hw : ((w.alloc (.cells #[.slice a zs.length c, .int .i64 b] 45)).alloc (.cells #[.slice none 0 0, .int .i64 0] 45)) = w0 at *
  clear hw
  have n0_0 : w.heap.size < w0.heap.size := by omega
  have n0_1 : w.heap.size + 1 < w0.heap.size := by omega
  refine (spec_plane a zs c b _ (Hhr.out.below HB0.out) hn true h).mono ?_
  rintro e w1 ⟨rfl, hb⟩
  have s1 : w0.heap.size ≤ w1.heap.size := hb.size
  have n1_0 : w.heap.size < w1.heap.size := by omega
  have n1_1 : w.heap.size + 1 < w1.heap.size := by omega
  replace x0_0 := cell_below hb x0_0 (by omega)
  replace x0_1 := cell_below hb x0_1 (by omega)
  replace x1_0 := cell_below hb x1_0 (by omega)
  replace x1_1 := cell_below hb x1_1 (by omega)
  replace f1_0 := fro_below hb f1_0 (by omega)
  replace f1_1 := fro_below hb f1_1 (by omega)
  have HB1 := Lib.hid (HB0.out.trans (hb.mono (by omega)))
  clear hb
  go_wp2_with fail
  refine bodyPost_ret (v := .tuple #[.agg #[.slice a zs.length c, .int .i64 b], .bool true]) (by simp [results, Try.results83, go_sem, x1_0, x1_1]) rfl ⟨rfl, ?_⟩
  exact ((HB1.out.setCell (by simp) _).setCell (by simp) _)
set_option maxHeartbeats 1000000 in
theorem impl_kept_no (a : Option Addr) (zs : List Int) (c : Nat) (b : Int) (w : World) (hr : ints.Reads .i64 w a zs) (hn : zs.length ≤ 1048576) (h : Hid (planeB zs b = false)) :
    Calls Try.prog 85 #[.agg #[.slice a zs.length c, .int .i64 b]] w (fun e w' => e = .returned (.tuple #[.agg #[.slice none 0 0, .int .i64 0], .bool false]) ∧ Below w.heap.size w w') := by
  have Hhr := Lib.hid hr
  clear hr
  go_enter Try.func85, Try.ntmps85
  go_wp2_with fail
  have x0_0 : (w.alloc (.cells #[.slice a zs.length c, .int .i64 b] 45)).cell? ⟨w.heap.size, 0, none⟩ = some (.slice a zs.length c) := cell_new _ _ _ (by simp) rfl
  have x0_1 : (w.alloc (.cells #[.slice a zs.length c, .int .i64 b] 45)).cell? ⟨w.heap.size, 1, none⟩ = some (.int .i64 b) := cell_new _ _ _ (by simp) rfl
  have HB0 := Lib.hid (below_alloc w (.cells #[.slice a zs.length c, .int .i64 b] 45))
  replace x0_0 := cell_old (.cells #[.slice none 0 0, .int .i64 0] 45) x0_0
  replace x0_1 := cell_old (.cells #[.slice none 0 0, .int .i64 0] 45) x0_1
  have x1_0 : ((w.alloc (.cells #[.slice a zs.length c, .int .i64 b] 45)).alloc (.cells #[.slice none 0 0, .int .i64 0] 45)).cell? ⟨w.heap.size + 1, 0, none⟩ = some (.slice none 0 0) := cell_new _ _ _ (by simp) rfl
  have x1_1 : ((w.alloc (.cells #[.slice a zs.length c, .int .i64 b] 45)).alloc (.cells #[.slice none 0 0, .int .i64 0] 45)).cell? ⟨w.heap.size + 1, 1, none⟩ = some (.int .i64 0) := cell_new _ _ _ (by simp) rfl
  have f1_0 : ((w.alloc (.cells #[.slice a zs.length c, .int .i64 b] 45)).alloc (.cells #[.slice none 0 0, .int .i64 0] 45)).frozen? ⟨w.heap.size + 1, 0, none⟩ = false := fro_new _ _ _ (by simp)
  have f1_1 : ((w.alloc (.cells #[.slice a zs.length c, .int .i64 b] 45)).alloc (.cells #[.slice none 0 0, .int .i64 0] 45)).frozen? ⟨w.heap.size + 1, 1, none⟩ = false := fro_new _ _ _ (by simp)
  replace HB0 := Lib.hid (HB0.out.alloc (by simp) (.cells #[.slice none 0 0, .int .i64 0] 45))
  have s0 : w.heap.size + 2 ≤ ((w.alloc (.cells #[.slice a zs.length c, .int .i64 b] 45)).alloc (.cells #[.slice none 0 0, .int .i64 0] 45)).heap.size := by simp
  generalize hw : ((w.alloc (.cells #[.slice a zs.length c, .int .i64 b] 45)).alloc (.cells #[.slice none 0 0, .int .i64 0] 45)) = w0 at *
  clear hw
  have n0_0 : w.heap.size < w0.heap.size := by omega
  have n0_1 : w.heap.size + 1 < w0.heap.size := by omega
  refine (impl_plane a zs c b _ (Hhr.out.below HB0.out) hn false h).mono ?_
  rintro e w1 ⟨rfl, hb⟩
  have s1 : w0.heap.size ≤ w1.heap.size := hb.size
  have n1_0 : w.heap.size < w1.heap.size := by omega
  have n1_1 : w.heap.size + 1 < w1.heap.size := by omega
  replace x0_0 := cell_below hb x0_0 (by omega)
  replace x0_1 := cell_below hb x0_1 (by omega)
  replace x1_0 := cell_below hb x1_0 (by omega)
  replace x1_1 := cell_below hb x1_1 (by omega)
  replace f1_0 := fro_below hb f1_0 (by omega)
  replace f1_1 := fro_below hb f1_1 (by omega)
  have HB1 := Lib.hid (HB0.out.trans (hb.mono (by omega)))
  clear hb
  go_wp2_with fail
  refine bodyPost_ret (v := .tuple #[.agg #[.slice none 0 0, .int .i64 0], .bool false]) (by simp [results, Try.results85, go_sem, x1_0, x1_1]) rfl ⟨rfl, ?_⟩
  exact ((HB1.out.setCell (by simp) _).setCell (by simp) _)
set_option maxHeartbeats 1000000 in
theorem impl_kept_yes (a : Option Addr) (zs : List Int) (c : Nat) (b : Int) (w : World) (hr : ints.Reads .i64 w a zs) (hn : zs.length ≤ 1048576) (h : Hid (planeB zs b = true)) :
    Calls Try.prog 85 #[.agg #[.slice a zs.length c, .int .i64 b]] w (fun e w' => e = .returned (.tuple #[.agg #[.slice a zs.length c, .int .i64 b], .bool true]) ∧ Below w.heap.size w w') := by
  have Hhr := Lib.hid hr
  clear hr
  go_enter Try.func85, Try.ntmps85
  go_wp2_with fail
  have x0_0 : (w.alloc (.cells #[.slice a zs.length c, .int .i64 b] 45)).cell? ⟨w.heap.size, 0, none⟩ = some (.slice a zs.length c) := cell_new _ _ _ (by simp) rfl
  have x0_1 : (w.alloc (.cells #[.slice a zs.length c, .int .i64 b] 45)).cell? ⟨w.heap.size, 1, none⟩ = some (.int .i64 b) := cell_new _ _ _ (by simp) rfl
  have HB0 := Lib.hid (below_alloc w (.cells #[.slice a zs.length c, .int .i64 b] 45))
  replace x0_0 := cell_old (.cells #[.slice none 0 0, .int .i64 0] 45) x0_0
  replace x0_1 := cell_old (.cells #[.slice none 0 0, .int .i64 0] 45) x0_1
  have x1_0 : ((w.alloc (.cells #[.slice a zs.length c, .int .i64 b] 45)).alloc (.cells #[.slice none 0 0, .int .i64 0] 45)).cell? ⟨w.heap.size + 1, 0, none⟩ = some (.slice none 0 0) := cell_new _ _ _ (by simp) rfl
  have x1_1 : ((w.alloc (.cells #[.slice a zs.length c, .int .i64 b] 45)).alloc (.cells #[.slice none 0 0, .int .i64 0] 45)).cell? ⟨w.heap.size + 1, 1, none⟩ = some (.int .i64 0) := cell_new _ _ _ (by simp) rfl
  have f1_0 : ((w.alloc (.cells #[.slice a zs.length c, .int .i64 b] 45)).alloc (.cells #[.slice none 0 0, .int .i64 0] 45)).frozen? ⟨w.heap.size + 1, 0, none⟩ = false := fro_new _ _ _ (by simp)
  have f1_1 : ((w.alloc (.cells #[.slice a zs.length c, .int .i64 b] 45)).alloc (.cells #[.slice none 0 0, .int .i64 0] 45)).frozen? ⟨w.heap.size + 1, 1, none⟩ = false := fro_new _ _ _ (by simp)
  replace HB0 := Lib.hid (HB0.out.alloc (by simp) (.cells #[.slice none 0 0, .int .i64 0] 45))
  have s0 : w.heap.size + 2 ≤ ((w.alloc (.cells #[.slice a zs.length c, .int .i64 b] 45)).alloc (.cells #[.slice none 0 0, .int .i64 0] 45)).heap.size := by simp
  generalize hw : ((w.alloc (.cells #[.slice a zs.length c, .int .i64 b] 45)).alloc (.cells #[.slice none 0 0, .int .i64 0] 45)) = w0 at *
  clear hw
  have n0_0 : w.heap.size < w0.heap.size := by omega
  have n0_1 : w.heap.size + 1 < w0.heap.size := by omega
  refine (impl_plane a zs c b _ (Hhr.out.below HB0.out) hn true h).mono ?_
  rintro e w1 ⟨rfl, hb⟩
  have s1 : w0.heap.size ≤ w1.heap.size := hb.size
  have n1_0 : w.heap.size < w1.heap.size := by omega
  have n1_1 : w.heap.size + 1 < w1.heap.size := by omega
  replace x0_0 := cell_below hb x0_0 (by omega)
  replace x0_1 := cell_below hb x0_1 (by omega)
  replace x1_0 := cell_below hb x1_0 (by omega)
  replace x1_1 := cell_below hb x1_1 (by omega)
  replace f1_0 := fro_below hb f1_0 (by omega)
  replace f1_1 := fro_below hb f1_1 (by omega)
  have HB1 := Lib.hid (HB0.out.trans (hb.mono (by omega)))
  clear hb
  go_wp2_with fail
  refine bodyPost_ret (v := .tuple #[.agg #[.slice a zs.length c, .int .i64 b], .bool true]) (by simp [results, Try.results85, go_sem, x1_0, x1_1]) rfl ⟨rfl, ?_⟩
  exact ((HB1.out.setCell (by simp) _).setCell (by simp) _)
end Go.Proofs.Ytkbcofgigfnfaaa.kept
