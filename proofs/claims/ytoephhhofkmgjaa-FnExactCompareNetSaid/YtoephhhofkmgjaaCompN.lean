/- The walks of CompareNet. -/
import Derived.Test.YtoephhhofkmgjaaMajor
import Derived.Deep.RegionHeld3
namespace Go.Proofs.Ytoephhhofkmgjaa.compn
open Go.RowKit own pp nums planes netp netb netm evenw own1 repz major
set_option linter.unusedVariables false
set_option linter.unusedSimpArgs false

set_option maxRecDepth 100000 in
set_option maxHeartbeats 1600000 in
theorem spec_comp_no (n : Int) (w : World) (h : (decide (1 ≤ n) && decide (n ≤ 2)) = false) :
    Calls Try.prog 41 #[.int .i64 n] w (RetTB [] 0 false w) := by
  have HI := Lib.hid h
  clear h
  go_enter Try.func41, Try.ntmps41
  obtain ⟨wb1, hw1⟩ : ∃ wb1 : World, wb1 = w.alloc (.cells #[.int .i64 0, .slice none 0 0] 29) := ⟨_, rfl⟩
  have z1 : wb1.heap.size = w.heap.size + 1 := by rw [hw1]; simp
  have x0_0 := (by rw [hw1]; exact cell_new _ _ _ rfl rfl : wb1.cell? ⟨w.heap.size, 0, none⟩ = some (.int .i64 0))
  have x0_1 := (by rw [hw1]; exact cell_new _ _ _ rfl rfl : wb1.cell? ⟨w.heap.size, 1, none⟩ = some (.slice none 0 0))
  have HB0 := Lib.hid (show Below w.heap.size w wb1 by rw [hw1]; exact (Below.refl w.heap.size w).alloc (Nat.le_refl _) _)
  have s1 : w.heap.size + 1 ≤ wb1.heap.size := by omega
  have f0_0 := (by rw [hw1]; exact fro_new _ _ _ rfl : wb1.frozen? ⟨w.heap.size, 0, none⟩ = false)
  have f0_1 := (by rw [hw1]; exact fro_new _ _ _ rfl : wb1.frozen? ⟨w.heap.size, 1, none⟩ = false)
  have HZ1 := Lib.hid z1
  clear z1
  go_wp2_with fail
  rw [← hw1]
  clear hw1
  refine (in_any _ _ _ _ false HI).mono ?_
  rintro e w' ⟨rfl, rfl⟩
  go_wp2_with fail
  refine bodyPost_ret (v := .tuple #[.agg #[.int .i64 0, .slice none 0 0], .bool false]) (by simp [results, Try.results41, go_sem, x0_0, x0_1, f0_0, f0_1]) rfl ⟨_, rfl, ?_, ?_⟩
  · exact OwnL.nil _ _ _
  · exact (HB0.out.setCell (by simp) _).setCell (by simp) _
set_option maxRecDepth 100000 in
set_option maxHeartbeats 1600000 in
theorem impl_comp_no (n : Int) (w : World) (h1 : n ≠ 1) (h2 : n ≠ 2) :
    Calls Try.prog 42 #[.int .i64 n] w (RetTB [] 0 false w) := by
  have i1 : (n == 1) = false := by simpa using h1
  have i2 : (n == 2) = false := by simpa using h2
  go_enter Try.func42, Try.ntmps42
  obtain ⟨wb1, hw1⟩ : ∃ wb1 : World, wb1 = w.alloc (.cells #[.int .i64 0, .slice none 0 0] 29) := ⟨_, rfl⟩
  have z1 : wb1.heap.size = w.heap.size + 1 := by rw [hw1]; simp
  have x0_0 := (by rw [hw1]; exact cell_new _ _ _ rfl rfl : wb1.cell? ⟨w.heap.size, 0, none⟩ = some (.int .i64 0))
  have x0_1 := (by rw [hw1]; exact cell_new _ _ _ rfl rfl : wb1.cell? ⟨w.heap.size, 1, none⟩ = some (.slice none 0 0))
  have HB0 := Lib.hid (show Below w.heap.size w wb1 by rw [hw1]; exact (Below.refl w.heap.size w).alloc (Nat.le_refl _) _)
  have s1 : w.heap.size + 1 ≤ wb1.heap.size := by omega
  have f0_0 := (by rw [hw1]; exact fro_new _ _ _ rfl : wb1.frozen? ⟨w.heap.size, 0, none⟩ = false)
  have f0_1 := (by rw [hw1]; exact fro_new _ _ _ rfl : wb1.frozen? ⟨w.heap.size, 1, none⟩ = false)
  have HZ1 := Lib.hid z1
  clear z1
  go_wp2_with fail
  rw [← hw1]
  clear hw1
  refine bodyPost_ret (v := .tuple #[.agg #[.int .i64 0, .slice none 0 0], .bool false]) (by simp [results, Try.results42, go_sem, x0_0, x0_1, f0_0, f0_1]) rfl ⟨_, rfl, ?_, ?_⟩
  · exact OwnL.nil _ _ _
  · first | exact HB0.out | exact (HB0.out.setCell (by simp) _).setCell (by simp) _
set_option maxRecDepth 100000 in
set_option maxHeartbeats 1600000 in
theorem spec_comp_1 (w : World) :
    Calls Try.prog 41 #[.int .i64 1] w (RetTB [[([1, -1], 0)]] 2 true w) := by
  have HI := Lib.hid (show (decide ((1 : Int) ≤ 1) && decide ((1 : Int) ≤ 2)) = true by decide)
  go_enter Try.func41, Try.ntmps41
  obtain ⟨wb1, hw1⟩ : ∃ wb1 : World, wb1 = w.alloc (.cells #[.int .i64 0, .slice none 0 0] 29) := ⟨_, rfl⟩
  have z1 : wb1.heap.size = w.heap.size + 1 := by rw [hw1]; simp
  have x0_0 := (by rw [hw1]; exact cell_new _ _ _ rfl rfl : wb1.cell? ⟨w.heap.size, 0, none⟩ = some (.int .i64 0))
  have x0_1 := (by rw [hw1]; exact cell_new _ _ _ rfl rfl : wb1.cell? ⟨w.heap.size, 1, none⟩ = some (.slice none 0 0))
  have HB0 := Lib.hid (show Below w.heap.size w wb1 by rw [hw1]; exact (Below.refl w.heap.size w).alloc (Nat.le_refl _) _)
  have s1 : w.heap.size + 1 ≤ wb1.heap.size := by omega
  have f0_0 := (by rw [hw1]; exact fro_new _ _ _ rfl : wb1.frozen? ⟨w.heap.size, 0, none⟩ = false)
  have f0_1 := (by rw [hw1]; exact fro_new _ _ _ rfl : wb1.frozen? ⟨w.heap.size, 1, none⟩ = false)
  have HZ1 := Lib.hid z1
  clear z1
  go_wp2_with fail
  rw [← hw1]
  clear hw1
  refine (in_any _ _ _ _ true HI).mono ?_
  rintro e w' ⟨rfl, rfl⟩
  go_wp2_with fail
  have hba := below_alloc wb1 (.cells #[.int .i64 1, .int .i64 (-1), .int .i64 2, .int .i64 (-2)] 3)
  have hsa := hba.size
  have hlt : wb1.heap.size < (wb1.alloc (.cells #[.int .i64 1, .int .i64 (-1), .int .i64 2, .int .i64 (-2)] 3)).heap.size := by simp
  refine (spec_own (some ⟨wb1.heap.size, 0, none⟩) [1, -1] 4 _ (.inr ⟨_, 0, rfl, hlt, fun i hi => ?_⟩) (by simp) (by simp)).mono ?_
  · have h4 : i = 0 ∨ i = 1 := by simp at hi; omega
    rcases h4 with rfl | rfl <;> exact cell_new _ _ _ rfl rfl
  rintro e w2 ⟨v, rfl, ho, hb⟩
  have ho := ho.mono (lo' := wb1.heap.size) hsa (Nat.le_refl _)
  have hb := hba.trans (hb.mono hsa)
  clear hba
  obtain ⟨p2, q2, rfl, _, _, _⟩ := ho.slice
  replace x0_0 := cell_below hb x0_0 (by omega)
  replace x0_1 := cell_below hb x0_1 (by omega)
  replace f0_0 := fro_below hb f0_0 (by omega)
  replace f0_1 := fro_below hb f0_1 (by omega)
  have s3 := hb.size
  have s2 : w.heap.size + 1 ≤ w2.heap.size := by omega
  have HB2 := Lib.hid (HB0.out.trans (hb.mono (by omega)))
  rw [(rfl : ([1, -1] : List Int).length = 2)] at ho
  have HO2 := Lib.hid ho
  clear hb ho
  replace x0_0 : ((w2.alloc (.cells #[.slice p2 2 q2, .int .i64 (0)] 86)).alloc (.cells #[.slice (some ⟨w2.heap.size, 0, none⟩) 1 1] 63)).cell? ⟨w.heap.size, 0, none⟩ = some (.int .i64 0) := cell_old _ (cell_old _ x0_0)
  replace x0_1 : ((w2.alloc (.cells #[.slice p2 2 q2, .int .i64 (0)] 86)).alloc (.cells #[.slice (some ⟨w2.heap.size, 0, none⟩) 1 1] 63)).cell? ⟨w.heap.size, 1, none⟩ = some (.slice none 0 0) := cell_old _ (cell_old _ x0_1)
  replace f0_0 : ((w2.alloc (.cells #[.slice p2 2 q2, .int .i64 (0)] 86)).alloc (.cells #[.slice (some ⟨w2.heap.size, 0, none⟩) 1 1] 63)).frozen? ⟨w.heap.size, 0, none⟩ = false := fro_below (below_alloc _ _) (fro_below (below_alloc _ _) f0_0 (by omega)) (by simp; omega)
  replace f0_1 : ((w2.alloc (.cells #[.slice p2 2 q2, .int .i64 (0)] 86)).alloc (.cells #[.slice (some ⟨w2.heap.size, 0, none⟩) 1 1] 63)).frozen? ⟨w.heap.size, 1, none⟩ = false := fro_below (below_alloc _ _) (fro_below (below_alloc _ _) f0_1 (by omega)) (by simp; omega)
  go_wp2_with fail
  refine bodyPost_ret (v := .tuple #[.agg #[.int .i64 (2), .slice (some ⟨w2.heap.size + 1, 0, none⟩) 1 1], .bool true]) (by simp [results, Try.results41, go_sem, x0_0, x0_1, f0_0, f0_1]) rfl ⟨_, rfl, ?_, ?_⟩
  · simp only [size_set]
    have ho3 := HO2.out.mono (Nat.le_refl _) (Nat.le_succ _)
    have hm3 := net_made ho3 (0) (by omega) (Nat.le_refl _)
    have hm4 := (hm3.mono (lo' := wb1.heap.size) (Nat.le_refl _) (Nat.le_refl _)).set (a := ⟨w.heap.size, 0, none⟩) (by show w.heap.size < _; omega) (.int .i64 (2))
    have hm5 := hm4.set (a := ⟨w.heap.size, 1, none⟩) (by show w.heap.size < _; omega) (.slice (some ⟨w2.heap.size + 1, 0, none⟩) 1 1)
    exact hm5.mono (by omega) (by simp)
  · exact (((HB2.out.alloc (by omega) _).alloc (by simp; omega) _).setCell (by simp) _).setCell (by simp) _
set_option maxRecDepth 100000 in
set_option maxHeartbeats 1600000 in
theorem impl_comp_1 (w : World) :
    Calls Try.prog 42 #[.int .i64 1] w (RetTB [[([1, -1], 0)]] 2 true w) := by
  go_enter Try.func42, Try.ntmps42
  obtain ⟨wb1, hw1⟩ : ∃ wb1 : World, wb1 = w.alloc (.cells #[.int .i64 0, .slice none 0 0] 29) := ⟨_, rfl⟩
  have z1 : wb1.heap.size = w.heap.size + 1 := by rw [hw1]; simp
  have x0_0 := (by rw [hw1]; exact cell_new _ _ _ rfl rfl : wb1.cell? ⟨w.heap.size, 0, none⟩ = some (.int .i64 0))
  have x0_1 := (by rw [hw1]; exact cell_new _ _ _ rfl rfl : wb1.cell? ⟨w.heap.size, 1, none⟩ = some (.slice none 0 0))
  have HB0 := Lib.hid (show Below w.heap.size w wb1 by rw [hw1]; exact (Below.refl w.heap.size w).alloc (Nat.le_refl _) _)
  have s1 : w.heap.size + 1 ≤ wb1.heap.size := by omega
  have f0_0 := (by rw [hw1]; exact fro_new _ _ _ rfl : wb1.frozen? ⟨w.heap.size, 0, none⟩ = false)
  have f0_1 := (by rw [hw1]; exact fro_new _ _ _ rfl : wb1.frozen? ⟨w.heap.size, 1, none⟩ = false)
  have HZ1 := Lib.hid z1
  clear z1
  go_wp2_with fail
  rw [← hw1]
  clear hw1
  rw [show w.heap.size + 1 = wb1.heap.size from HZ1.out.symm]
  have hba := below_alloc wb1 (.cells #[.int .i64 1, .int .i64 (-1)] 3)
  have hlt : wb1.heap.size + 1 = (wb1.alloc (.cells #[.int .i64 1, .int .i64 (-1)] 3)).heap.size := by simp
  have ho : OwnI wb1.heap.size (wb1.heap.size + 1) (wb1.alloc (.cells #[.int .i64 1, .int .i64 (-1)] 3)) (.slice (some ⟨wb1.heap.size, 0, none⟩) 2 2) [1, -1] :=
    ⟨World.ownsRow_lit (base := wb1.heap.size) (e := 3) (size := 1) wb1 #[.int .i64 (1), .int .i64 (-1)] 2 (Nat.le_refl _) (by unfold maxLen; omega) rfl, fun g hg => by simp [Value.ownBlock] at hg; omega⟩
  have HG : Calls Try.prog 81 #[.agg #[.slice (some ⟨wb1.heap.size, 0, none⟩) 2 2, .int .i64 0]] (wb1.alloc (.cells #[.int .i64 1, .int .i64 (-1)] 3)) (fun e w' => ∃ v, e = .returned (.agg #[.int .i64 2, v]) ∧ OwnL wb1.heap.size w'.heap.size w' v [[([1, -1], 0)]] ∧ Below (wb1.alloc (.cells #[.int .i64 1, .int .i64 (-1)] 3)).heap.size (wb1.alloc (.cells #[.int .i64 1, .int .i64 (-1)] 3)) w') := impl_gate (some ⟨wb1.heap.size, 0, none⟩) [1, -1] 2 0 wb1.heap.size (wb1.heap.size + 1) _ ho (by omega) (by omega)
  have HB1 := Lib.hid (HB0.out.trans (hba.mono (by omega)))
  replace x0_0 := cell_below hba x0_0 (by omega)
  replace x0_1 := cell_below hba x0_1 (by omega)
  replace f0_0 := fro_below hba f0_0 (by omega)
  replace f0_1 := fro_below hba f0_1 (by omega)
  clear hba ho
  refine HG.mono ?_
  rintro e w3 ⟨v3, rfl, hl3, hb3⟩
  obtain ⟨p3, q3, rfl, _, _, _⟩ := hl3.slice
  replace x0_0 := cell_below hb3 x0_0 (by omega)
  replace x0_1 := cell_below hb3 x0_1 (by omega)
  replace f0_0 := fro_below hb3 f0_0 (by omega)
  replace f0_1 := fro_below hb3 f0_1 (by omega)
  have HB3 := Lib.hid (HB1.out.trans (hb3.mono (by omega)))
  have s4 := hb3.size
  have HL3 := Lib.hid hl3
  clear hb3 hl3 HG
  go_wp2_with fail
  refine bodyPost_ret (v := .tuple #[.agg #[.int .i64 (2), .slice p3 1 q3], .bool true]) (by simp [results, Try.results42, go_sem, x0_0, x0_1, f0_0, f0_1]) rfl ⟨_, rfl, ?_, ?_⟩
  · simp only [size_set]
    exact ((HL3.out.set (a := ⟨w.heap.size, 0, none⟩) (by show w.heap.size < _; omega) _).set (a := ⟨w.heap.size, 1, none⟩) (by show w.heap.size < _; omega) _).mono (by omega) (Nat.le_refl _)
  · exact (HB3.out.setCell (by simp) _).setCell (by simp) _
set_option maxRecDepth 100000 in
set_option maxHeartbeats 1600000 in
theorem spec_comp_2 (w : World) :
    Calls Try.prog 41 #[.int .i64 2] w (RetTB [[([1, -1, 2, -2], 0)]] 4 true w) := by
  have HI := Lib.hid (show (decide ((1 : Int) ≤ 2) && decide ((2 : Int) ≤ 2)) = true by decide)
  go_enter Try.func41, Try.ntmps41
  obtain ⟨wb1, hw1⟩ : ∃ wb1 : World, wb1 = w.alloc (.cells #[.int .i64 0, .slice none 0 0] 29) := ⟨_, rfl⟩
  have z1 : wb1.heap.size = w.heap.size + 1 := by rw [hw1]; simp
  have x0_0 := (by rw [hw1]; exact cell_new _ _ _ rfl rfl : wb1.cell? ⟨w.heap.size, 0, none⟩ = some (.int .i64 0))
  have x0_1 := (by rw [hw1]; exact cell_new _ _ _ rfl rfl : wb1.cell? ⟨w.heap.size, 1, none⟩ = some (.slice none 0 0))
  have HB0 := Lib.hid (show Below w.heap.size w wb1 by rw [hw1]; exact (Below.refl w.heap.size w).alloc (Nat.le_refl _) _)
  have s1 : w.heap.size + 1 ≤ wb1.heap.size := by omega
  have f0_0 := (by rw [hw1]; exact fro_new _ _ _ rfl : wb1.frozen? ⟨w.heap.size, 0, none⟩ = false)
  have f0_1 := (by rw [hw1]; exact fro_new _ _ _ rfl : wb1.frozen? ⟨w.heap.size, 1, none⟩ = false)
  have HZ1 := Lib.hid z1
  clear z1
  go_wp2_with fail
  rw [← hw1]
  clear hw1
  refine (in_any _ _ _ _ true HI).mono ?_
  rintro e w' ⟨rfl, rfl⟩
  go_wp2_with fail
  have hba := below_alloc wb1 (.cells #[.int .i64 1, .int .i64 (-1), .int .i64 2, .int .i64 (-2)] 3)
  have hsa := hba.size
  have hlt : wb1.heap.size < (wb1.alloc (.cells #[.int .i64 1, .int .i64 (-1), .int .i64 2, .int .i64 (-2)] 3)).heap.size := by simp
  refine (spec_own (some ⟨wb1.heap.size, 0, none⟩) [1, -1, 2, -2] 4 _ (.inr ⟨_, 0, rfl, hlt, fun i hi => ?_⟩) (by simp) (by simp)).mono ?_
  · have h4 : i = 0 ∨ i = 1 ∨ i = 2 ∨ i = 3 := by simp at hi; omega
    rcases h4 with rfl | rfl | rfl | rfl <;> exact cell_new _ _ _ rfl rfl
  rintro e w2 ⟨v, rfl, ho, hb⟩
  have ho := ho.mono (lo' := wb1.heap.size) hsa (Nat.le_refl _)
  have hb := hba.trans (hb.mono hsa)
  clear hba
  obtain ⟨p2, q2, rfl, _, _, _⟩ := ho.slice
  replace x0_0 := cell_below hb x0_0 (by omega)
  replace x0_1 := cell_below hb x0_1 (by omega)
  replace f0_0 := fro_below hb f0_0 (by omega)
  replace f0_1 := fro_below hb f0_1 (by omega)
  have s3 := hb.size
  have s2 : w.heap.size + 1 ≤ w2.heap.size := by omega
  have HB2 := Lib.hid (HB0.out.trans (hb.mono (by omega)))
  rw [(rfl : ([1, -1, 2, -2] : List Int).length = 4)] at ho
  have HO2 := Lib.hid ho
  clear hb ho
  replace x0_0 : ((w2.alloc (.cells #[.slice p2 4 q2, .int .i64 (0)] 86)).alloc (.cells #[.slice (some ⟨w2.heap.size, 0, none⟩) 1 1] 63)).cell? ⟨w.heap.size, 0, none⟩ = some (.int .i64 0) := cell_old _ (cell_old _ x0_0)
  replace x0_1 : ((w2.alloc (.cells #[.slice p2 4 q2, .int .i64 (0)] 86)).alloc (.cells #[.slice (some ⟨w2.heap.size, 0, none⟩) 1 1] 63)).cell? ⟨w.heap.size, 1, none⟩ = some (.slice none 0 0) := cell_old _ (cell_old _ x0_1)
  replace f0_0 : ((w2.alloc (.cells #[.slice p2 4 q2, .int .i64 (0)] 86)).alloc (.cells #[.slice (some ⟨w2.heap.size, 0, none⟩) 1 1] 63)).frozen? ⟨w.heap.size, 0, none⟩ = false := fro_below (below_alloc _ _) (fro_below (below_alloc _ _) f0_0 (by omega)) (by simp; omega)
  replace f0_1 : ((w2.alloc (.cells #[.slice p2 4 q2, .int .i64 (0)] 86)).alloc (.cells #[.slice (some ⟨w2.heap.size, 0, none⟩) 1 1] 63)).frozen? ⟨w.heap.size, 1, none⟩ = false := fro_below (below_alloc _ _) (fro_below (below_alloc _ _) f0_1 (by omega)) (by simp; omega)
  go_wp2_with fail
  refine bodyPost_ret (v := .tuple #[.agg #[.int .i64 (4), .slice (some ⟨w2.heap.size + 1, 0, none⟩) 1 1], .bool true]) (by simp [results, Try.results41, go_sem, x0_0, x0_1, f0_0, f0_1]) rfl ⟨_, rfl, ?_, ?_⟩
  · simp only [size_set]
    have ho3 := HO2.out.mono (Nat.le_refl _) (Nat.le_succ _)
    have hm3 := net_made ho3 (0) (by omega) (Nat.le_refl _)
    have hm4 := (hm3.mono (lo' := wb1.heap.size) (Nat.le_refl _) (Nat.le_refl _)).set (a := ⟨w.heap.size, 0, none⟩) (by show w.heap.size < _; omega) (.int .i64 (4))
    have hm5 := hm4.set (a := ⟨w.heap.size, 1, none⟩) (by show w.heap.size < _; omega) (.slice (some ⟨w2.heap.size + 1, 0, none⟩) 1 1)
    exact hm5.mono (by omega) (by simp)
  · exact (((HB2.out.alloc (by omega) _).alloc (by simp; omega) _).setCell (by simp) _).setCell (by simp) _
set_option maxRecDepth 100000 in
set_option maxHeartbeats 1600000 in
theorem impl_comp_2 (w : World) :
    Calls Try.prog 42 #[.int .i64 2] w (RetTB [[([1, -1, 2, -2], 0)]] 4 true w) := by
  go_enter Try.func42, Try.ntmps42
  obtain ⟨wb1, hw1⟩ : ∃ wb1 : World, wb1 = w.alloc (.cells #[.int .i64 0, .slice none 0 0] 29) := ⟨_, rfl⟩
  have z1 : wb1.heap.size = w.heap.size + 1 := by rw [hw1]; simp
  have x0_0 := (by rw [hw1]; exact cell_new _ _ _ rfl rfl : wb1.cell? ⟨w.heap.size, 0, none⟩ = some (.int .i64 0))
  have x0_1 := (by rw [hw1]; exact cell_new _ _ _ rfl rfl : wb1.cell? ⟨w.heap.size, 1, none⟩ = some (.slice none 0 0))
  have HB0 := Lib.hid (show Below w.heap.size w wb1 by rw [hw1]; exact (Below.refl w.heap.size w).alloc (Nat.le_refl _) _)
  have s1 : w.heap.size + 1 ≤ wb1.heap.size := by omega
  have f0_0 := (by rw [hw1]; exact fro_new _ _ _ rfl : wb1.frozen? ⟨w.heap.size, 0, none⟩ = false)
  have f0_1 := (by rw [hw1]; exact fro_new _ _ _ rfl : wb1.frozen? ⟨w.heap.size, 1, none⟩ = false)
  have HZ1 := Lib.hid z1
  clear z1
  go_wp2_with fail
  rw [← hw1]
  clear hw1
  rw [show w.heap.size + 1 = wb1.heap.size from HZ1.out.symm]
  have hba := below_alloc wb1 (.cells #[.int .i64 1, .int .i64 (-1), .int .i64 2, .int .i64 (-2)] 3)
  have hlt : wb1.heap.size + 1 = (wb1.alloc (.cells #[.int .i64 1, .int .i64 (-1), .int .i64 2, .int .i64 (-2)] 3)).heap.size := by simp
  have ho : OwnI wb1.heap.size (wb1.heap.size + 1) (wb1.alloc (.cells #[.int .i64 1, .int .i64 (-1), .int .i64 2, .int .i64 (-2)] 3)) (.slice (some ⟨wb1.heap.size, 0, none⟩) 4 4) [1, -1, 2, -2] :=
    ⟨World.ownsRow_lit (base := wb1.heap.size) (e := 3) (size := 1) wb1 #[.int .i64 (1), .int .i64 (-1), .int .i64 (2), .int .i64 (-2)] 4 (Nat.le_refl _) (by unfold maxLen; omega) rfl, fun g hg => by simp [Value.ownBlock] at hg; omega⟩
  have HG : Calls Try.prog 81 #[.agg #[.slice (some ⟨wb1.heap.size, 0, none⟩) 4 4, .int .i64 0]] (wb1.alloc (.cells #[.int .i64 1, .int .i64 (-1), .int .i64 2, .int .i64 (-2)] 3)) (fun e w' => ∃ v, e = .returned (.agg #[.int .i64 4, v]) ∧ OwnL wb1.heap.size w'.heap.size w' v [[([1, -1, 2, -2], 0)]] ∧ Below (wb1.alloc (.cells #[.int .i64 1, .int .i64 (-1), .int .i64 2, .int .i64 (-2)] 3)).heap.size (wb1.alloc (.cells #[.int .i64 1, .int .i64 (-1), .int .i64 2, .int .i64 (-2)] 3)) w') := impl_gate (some ⟨wb1.heap.size, 0, none⟩) [1, -1, 2, -2] 4 0 wb1.heap.size (wb1.heap.size + 1) _ ho (by omega) (by omega)
  have HB1 := Lib.hid (HB0.out.trans (hba.mono (by omega)))
  replace x0_0 := cell_below hba x0_0 (by omega)
  replace x0_1 := cell_below hba x0_1 (by omega)
  replace f0_0 := fro_below hba f0_0 (by omega)
  replace f0_1 := fro_below hba f0_1 (by omega)
  clear hba ho
  refine HG.mono ?_
  rintro e w3 ⟨v3, rfl, hl3, hb3⟩
  obtain ⟨p3, q3, rfl, _, _, _⟩ := hl3.slice
  replace x0_0 := cell_below hb3 x0_0 (by omega)
  replace x0_1 := cell_below hb3 x0_1 (by omega)
  replace f0_0 := fro_below hb3 f0_0 (by omega)
  replace f0_1 := fro_below hb3 f0_1 (by omega)
  have HB3 := Lib.hid (HB1.out.trans (hb3.mono (by omega)))
  have s4 := hb3.size
  have HL3 := Lib.hid hl3
  clear hb3 hl3 HG
  go_wp2_with fail
  refine bodyPost_ret (v := .tuple #[.agg #[.int .i64 (4), .slice p3 1 q3], .bool true]) (by simp [results, Try.results42, go_sem, x0_0, x0_1, f0_0, f0_1]) rfl ⟨_, rfl, ?_, ?_⟩
  · simp only [size_set]
    exact ((HL3.out.set (a := ⟨w.heap.size, 0, none⟩) (by show w.heap.size < _; omega) _).set (a := ⟨w.heap.size, 1, none⟩) (by show w.heap.size < _; omega) _).mono (by omega) (Nat.le_refl _)
  · exact (HB3.out.setCell (by simp) _).setCell (by simp) _
end Go.Proofs.Ytoephhhofkmgjaa.compn
