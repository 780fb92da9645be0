/- The walks of nets of one gate. -/
import Derived.Test.YtoephhhofkmgjaaNetM
import Derived.Test.YtoephhhofkmgjaaEvenW
import Derived.Test.YtoephhhofkmgjaaNetB
import Derived.Test.YtoephhhofkmgjaaRepZ
import Derived.Deep.RegionHeld3
namespace Go.Proofs.Ytoephhhofkmgjaa.major
open Go.RowKit own pp nums planes netp netb netm evenw own1 repz
set_option linter.unusedVariables false
set_option linter.unusedSimpArgs false

set_option maxRecDepth 100000 in
set_option maxHeartbeats 1600000 in
theorem spec_major_no (n : Int) (w : World) (h : (decide (1 ≤ n) && decide (n ≤ 4)) = false) :
    Calls Try.prog 39 #[.int .i64 n] w (RetTB [] 0 false w) := by
  have HI := Lib.hid (show (decide (1 ≤ n) && decide (n ≤ 4)) = false from h)
  clear h
  go_enter Try.func39, Try.ntmps39
  obtain ⟨wb1, hw1⟩ : ∃ wb1 : World, wb1 = w.alloc (.cells #[.int .i64 0, .slice none 0 0] 29) := ⟨_, rfl⟩
  have z1 : wb1.heap.size = w.heap.size + 1 := by rw [hw1]; simp
  have x0_0 := (by rw [hw1]; exact cell_new _ _ _ rfl rfl : wb1.cell? ⟨w.heap.size, 0, none⟩ = some (.int .i64 0))
  have x0_1 := (by rw [hw1]; exact cell_new _ _ _ rfl rfl : wb1.cell? ⟨w.heap.size, 1, none⟩ = some (.slice none 0 0))
  have HB0 := Lib.hid (show Below w.heap.size w wb1 by rw [hw1]; exact (Below.refl w.heap.size w).alloc (Nat.le_refl _) _)
  have s1 : w.heap.size + 1 ≤ wb1.heap.size := by omega
  have f0_0 := (by rw [hw1]; exact fro_new _ _ _ rfl : wb1.frozen? ⟨w.heap.size, 0, none⟩ = false)
  have f0_1 := (by rw [hw1]; exact fro_new _ _ _ rfl : wb1.frozen? ⟨w.heap.size, 1, none⟩ = false)
  have HZ1 := Lib.hid z1
  clear z1
  go_wp2_with fail
  rw [← hw1]
  clear hw1
  refine (in_any _ _ _ _ false HI).mono ?_
  rintro e w' ⟨rfl, rfl⟩
  go_wp2_with fail
  refine bodyPost_ret (v := .tuple #[.agg #[.int .i64 0, .slice none 0 0], .bool false]) (by simp [results, Try.results39, go_sem, x0_0, x0_1, f0_0, f0_1]) rfl ⟨_, rfl, ?_, ?_⟩
  · exact OwnL.nil _ _ _
  · exact (HB0.out.setCell (by simp) _).setCell (by simp) _
set_option maxRecDepth 100000 in
set_option maxHeartbeats 1600000 in
theorem impl_major_no (n : Int) (w : World) (h : (decide (1 ≤ n) && decide (n ≤ 4)) = false) :
    Calls Try.prog 40 #[.int .i64 n] w (RetTB [] 0 false w) := by
  have HI := Lib.hid (show (decide (1 ≤ n) && decide (n ≤ 4)) = false from h)
  clear h
  go_enter Try.func40, Try.ntmps40
  obtain ⟨wb1, hw1⟩ : ∃ wb1 : World, wb1 = w.alloc (.cells #[.int .i64 0, .slice none 0 0] 29) := ⟨_, rfl⟩
  have z1 : wb1.heap.size = w.heap.size + 1 := by rw [hw1]; simp
  have x0_0 := (by rw [hw1]; exact cell_new _ _ _ rfl rfl : wb1.cell? ⟨w.heap.size, 0, none⟩ = some (.int .i64 0))
  have x0_1 := (by rw [hw1]; exact cell_new _ _ _ rfl rfl : wb1.cell? ⟨w.heap.size, 1, none⟩ = some (.slice none 0 0))
  have HB0 := Lib.hid (show Below w.heap.size w wb1 by rw [hw1]; exact (Below.refl w.heap.size w).alloc (Nat.le_refl _) _)
  have s1 : w.heap.size + 1 ≤ wb1.heap.size := by omega
  have f0_0 := (by rw [hw1]; exact fro_new _ _ _ rfl : wb1.frozen? ⟨w.heap.size, 0, none⟩ = false)
  have f0_1 := (by rw [hw1]; exact fro_new _ _ _ rfl : wb1.frozen? ⟨w.heap.size, 1, none⟩ = false)
  have HZ1 := Lib.hid z1
  clear z1
  go_wp2_with fail
  rw [← hw1]
  clear hw1
  refine (inputs_any _ _ false HI).mono ?_
  rintro e w' ⟨rfl, rfl⟩
  go_wp2_with fail
  refine bodyPost_ret (v := .tuple #[.agg #[.int .i64 0, .slice none 0 0], .bool false]) (by simp [results, Try.results40, go_sem, x0_0, x0_1, f0_0, f0_1]) rfl ⟨_, rfl, ?_, ?_⟩
  · exact OwnL.nil _ _ _
  · exact (HB0.out.setCell (by simp) _).setCell (by simp) _
set_option maxRecDepth 100000 in
set_option maxHeartbeats 1600000 in
theorem spec_major_yes (n : Nat) (w : World) (h1 : 1 ≤ n) (h4 : n ≤ 4) :
    Calls Try.prog 39 #[.int .i64 n] w (RetTB [[(List.replicate n 1, (n : Int) / 2 + 1)]] n true w) := by
  have HI := Lib.hid (show (decide (1 ≤ (n : Int)) && decide ((n : Int) ≤ 4)) = true by simp; omega)
  go_enter Try.func39, Try.ntmps39
  obtain ⟨wb1, hw1⟩ : ∃ wb1 : World, wb1 = w.alloc (.cells #[.int .i64 0, .slice none 0 0] 29) := ⟨_, rfl⟩
  have z1 : wb1.heap.size = w.heap.size + 1 := by rw [hw1]; simp
  have x0_0 := (by rw [hw1]; exact cell_new _ _ _ rfl rfl : wb1.cell? ⟨w.heap.size, 0, none⟩ = some (.int .i64 0))
  have x0_1 := (by rw [hw1]; exact cell_new _ _ _ rfl rfl : wb1.cell? ⟨w.heap.size, 1, none⟩ = some (.slice none 0 0))
  have HB0 := Lib.hid (show Below w.heap.size w wb1 by rw [hw1]; exact (Below.refl w.heap.size w).alloc (Nat.le_refl _) _)
  have s1 : w.heap.size + 1 ≤ wb1.heap.size := by omega
  have f0_0 := (by rw [hw1]; exact fro_new _ _ _ rfl : wb1.frozen? ⟨w.heap.size, 0, none⟩ = false)
  have f0_1 := (by rw [hw1]; exact fro_new _ _ _ rfl : wb1.frozen? ⟨w.heap.size, 1, none⟩ = false)
  have HZ1 := Lib.hid z1
  clear z1
  go_wp2_with fail
  rw [← hw1]
  clear hw1
  refine (in_any _ _ _ _ true HI).mono ?_
  rintro e w' ⟨rfl, rfl⟩
  go_wp2_with fail
  refine (spec_even_false n wb1 h4).mono ?_
  rintro e w2 ⟨v, rfl, ho, hb⟩
  rw [evenL_false] at ho
  obtain ⟨p2, q2, rfl, _, _, _⟩ := ho.slice
  replace x0_0 := cell_below hb x0_0 (by omega)
  replace x0_1 := cell_below hb x0_1 (by omega)
  replace f0_0 := fro_below hb f0_0 (by omega)
  replace f0_1 := fro_below hb f0_1 (by omega)
  have s3 := hb.size
  have s2 : w.heap.size + 1 ≤ w2.heap.size := by omega
  have HB2 := Lib.hid (HB0.out.trans (hb.mono (by omega)))
  rw [List.length_replicate] at ho
  have HO2 := Lib.hid ho
  clear hb ho
  replace x0_0 : ((w2.alloc (.cells #[.slice p2 n q2, .int .i64 ((n : Int) / 2 + 1)] 86)).alloc (.cells #[.slice (some ⟨w2.heap.size, 0, none⟩) 1 1] 63)).cell? ⟨w.heap.size, 0, none⟩ = some (.int .i64 0) := cell_old _ (cell_old _ x0_0)
  replace x0_1 : ((w2.alloc (.cells #[.slice p2 n q2, .int .i64 ((n : Int) / 2 + 1)] 86)).alloc (.cells #[.slice (some ⟨w2.heap.size, 0, none⟩) 1 1] 63)).cell? ⟨w.heap.size, 1, none⟩ = some (.slice none 0 0) := cell_old _ (cell_old _ x0_1)
  replace f0_0 : ((w2.alloc (.cells #[.slice p2 n q2, .int .i64 ((n : Int) / 2 + 1)] 86)).alloc (.cells #[.slice (some ⟨w2.heap.size, 0, none⟩) 1 1] 63)).frozen? ⟨w.heap.size, 0, none⟩ = false := fro_below (below_alloc _ _) (fro_below (below_alloc _ _) f0_0 (by omega)) (by simp; omega)
  replace f0_1 : ((w2.alloc (.cells #[.slice p2 n q2, .int .i64 ((n : Int) / 2 + 1)] 86)).alloc (.cells #[.slice (some ⟨w2.heap.size, 0, none⟩) 1 1] 63)).frozen? ⟨w.heap.size, 1, none⟩ = false := fro_below (below_alloc _ _) (fro_below (below_alloc _ _) f0_1 (by omega)) (by simp; omega)
  go_wp2_with fail
  refine bodyPost_ret (v := .tuple #[.agg #[.int .i64 (n), .slice (some ⟨w2.heap.size + 1, 0, none⟩) 1 1], .bool true]) (by simp [results, Try.results39, go_sem, x0_0, x0_1, f0_0, f0_1]) rfl ⟨_, rfl, ?_, ?_⟩
  · simp only [size_set]
    have ho3 := HO2.out.mono (Nat.le_refl _) (Nat.le_succ _)
    have hm3 := net_made ho3 ((n : Int) / 2 + 1) (by omega) (Nat.le_refl _)
    have hm4 := (hm3.mono (lo' := wb1.heap.size) (Nat.le_refl _) (Nat.le_refl _)).set (a := ⟨w.heap.size, 0, none⟩) (by show w.heap.size < _; omega) (.int .i64 (n))
    have hm5 := hm4.set (a := ⟨w.heap.size, 1, none⟩) (by show w.heap.size < _; omega) (.slice (some ⟨w2.heap.size + 1, 0, none⟩) 1 1)
    exact hm5.mono (by omega) (by simp)
  · exact (((HB2.out.alloc (by omega) _).alloc (by simp; omega) _).setCell (by simp) _).setCell (by simp) _
set_option maxRecDepth 100000 in
set_option maxHeartbeats 1600000 in
theorem impl_gate (p : Option Addr) (ws : List Int) (q : Nat) (b : Int) (lo hi : Nat) (w : World) (ho : OwnI lo hi w (.slice p ws.length q) ws) (hl : lo ≤ w.heap.size) (hh : hi ≤ w.heap.size) :
    Calls Try.prog 81 #[.agg #[.slice p ws.length q, .int .i64 b]] w (fun e w' => ∃ v, e = .returned (.agg #[.int .i64 ws.length, v]) ∧ OwnL lo w'.heap.size w' v [[(ws, b)]] ∧ Below w.heap.size w w') := by
  go_enter Try.func81, Try.ntmps81
  have hB : Below w.heap.size w ((w.alloc (.cells #[.slice p ws.length q, .int .i64 b] 86)).alloc (.cells #[.int .i64 ws.length, .slice (some ⟨w.heap.size + 1 + 1 + 1, 0, none⟩) 1 1] 29)) := (below_alloc w _).alloc (by simp) _
  have e2 : ((w.alloc (.cells #[.slice p ws.length q, .int .i64 b] 86)).alloc (.cells #[.int .i64 ws.length, .slice (some ⟨w.heap.size + 1 + 1 + 1, 0, none⟩) 1 1] 29)).heap.size = w.heap.size + 1 + 1 := by simp
  have hm := net_made (ho.below hB) b (by omega) (by omega)
  rw [e2] at hm
  have HM := Lib.hid hm
  clear hm e2
  have HB := Lib.hid hB
  clear hB ho
  go_wp2_with fail
  refine bodyPost_ret (v := .agg #[.int .i64 ws.length, .slice (some ⟨w.heap.size + 1 + 1 + 1, 0, none⟩) 1 1]) (by simp [results, Try.results81, go_sem]) rfl ⟨_, rfl, HM.out.mono (Nat.le_refl _) (by simp), ?_⟩
  exact (HB.out.alloc (by simp; omega) _).alloc (by simp; omega) _
set_option maxRecDepth 100000 in
set_option maxHeartbeats 1600000 in
theorem impl_major_yes (n : Nat) (w : World) (h1 : 1 ≤ n) (h4 : n ≤ 4) :
    Calls Try.prog 40 #[.int .i64 n] w (RetTB [[(List.replicate n 1, (n : Int) / 2 + 1)]] n true w) := by
  have HI := Lib.hid (show (decide (1 ≤ (n : Int)) && decide ((n : Int) ≤ 4)) = true by simp; omega)
  go_enter Try.func40, Try.ntmps40
  obtain ⟨wb1, hw1⟩ : ∃ wb1 : World, wb1 = w.alloc (.cells #[.int .i64 0, .slice none 0 0] 29) := ⟨_, rfl⟩
  have z1 : wb1.heap.size = w.heap.size + 1 := by rw [hw1]; simp
  have x0_0 := (by rw [hw1]; exact cell_new _ _ _ rfl rfl : wb1.cell? ⟨w.heap.size, 0, none⟩ = some (.int .i64 0))
  have x0_1 := (by rw [hw1]; exact cell_new _ _ _ rfl rfl : wb1.cell? ⟨w.heap.size, 1, none⟩ = some (.slice none 0 0))
  have HB0 := Lib.hid (show Below w.heap.size w wb1 by rw [hw1]; exact (Below.refl w.heap.size w).alloc (Nat.le_refl _) _)
  have s1 : w.heap.size + 1 ≤ wb1.heap.size := by omega
  have f0_0 := (by rw [hw1]; exact fro_new _ _ _ rfl : wb1.frozen? ⟨w.heap.size, 0, none⟩ = false)
  have f0_1 := (by rw [hw1]; exact fro_new _ _ _ rfl : wb1.frozen? ⟨w.heap.size, 1, none⟩ = false)
  have HZ1 := Lib.hid z1
  clear z1
  go_wp2_with fail
  rw [← hw1]
  clear hw1
  refine (inputs_any _ _ true HI).mono ?_
  rintro e w' ⟨rfl, rfl⟩
  go_wp2_with fail
  have hba := below_alloc wb1 (.cells #[.int .i64 1] 3)
  have hsa := hba.size
  refine (reps 1 wb1.heap.size 0 1 n _ (cell_new _ _ _ rfl rfl) h1 (by omega)).mono ?_
  rintro e w2 ⟨v, rfl, ho, hb⟩
  obtain ⟨p2, q2, rfl, _, _, _⟩ := ho.slice
  have hb := hba.trans (hb.mono hsa)
  have s3 := hb.size
  replace x0_0 := cell_below hb x0_0 (by omega)
  replace x0_1 := cell_below hb x0_1 (by omega)
  replace f0_0 := fro_below hb f0_0 (by omega)
  replace f0_1 := fro_below hb f0_1 (by omega)
  have HB2 := Lib.hid (HB0.out.trans (hb.mono (by omega)))
  have HO2' := ho.mono (lo' := wb1.heap.size) hsa (Nat.le_refl _)
  have HO2 := Lib.hid HO2'
  clear hb ho HO2' hba
  go_wp2_with fail
  have HO2' := HO2.out
  have HG := impl_gate p2 (List.replicate n 1) q2 ((n : Int) / 2 + 1) _ _ w2 HO2' (by omega) (Nat.le_refl _)
  rw [List.length_replicate] at HG
  refine HG.mono ?_
  rintro e w3 ⟨v3, rfl, hl3, hb3⟩
  obtain ⟨p3, q3, rfl, _, _, _⟩ := hl3.slice
  replace x0_0 := cell_below hb3 x0_0 (by omega)
  replace x0_1 := cell_below hb3 x0_1 (by omega)
  replace f0_0 := fro_below hb3 f0_0 (by omega)
  replace f0_1 := fro_below hb3 f0_1 (by omega)
  have HB3 := Lib.hid (HB2.out.trans (hb3.mono (by omega)))
  have s4 := hb3.size
  have HL3 := Lib.hid hl3
  clear hb3 hl3 HG
  go_wp2_with fail
  refine bodyPost_ret (v := .tuple #[.agg #[.int .i64 (n), .slice p3 1 q3], .bool true]) (by simp [results, Try.results40, go_sem, x0_0, x0_1, f0_0, f0_1]) rfl ⟨_, rfl, ?_, ?_⟩
  · simp only [size_set]
    exact ((HL3.out.set (a := ⟨w.heap.size, 0, none⟩) (by show w.heap.size < _; omega) _).set (a := ⟨w.heap.size, 1, none⟩) (by show w.heap.size < _; omega) _).mono (by omega) (Nat.le_refl _)
  · exact (HB3.out.setCell (by simp) _).setCell (by simp) _
end Go.Proofs.Ytoephhhofkmgjaa.major
