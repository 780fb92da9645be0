/- The program's two nets side by side. -/
import Derived.Test.YtkbcofgigfnfaabChk
import Derived.Test.YtkbcofgigfnfaabWidG
import Derived.Test.YtkbcofgigfnfaabWidC
import Derived.BigQuiet
namespace Go.Proofs.Ytkbcofgigfnfaab.joini
open Go.RowKit own pp nums planes netp netb ownnet widp
set_option linter.unusedVariables false
set_option linter.unusedSimpArgs false

set_option maxRecDepth 100000 in
set_option maxHeartbeats 1600000 in
theorem impl_jn_no (a : Option Addr) (ls : List (List (List Int × Int))) (c : Nat) (n : Int) (a' : Option Addr) (ms : List (List (List Int × Int))) (c' : Nat) (n' : Int) (w : World) (hr : ReadsL w a ls) (hq : ReadsL w a' ms) (hn : ls.length ≤ 1048576) (hk : ms.length ≤ 1048576) (hm : ∀ x ∈ ls, x.length ≤ 1048576 ∧ ∀ y ∈ x, y.1.length ≤ 1048576) (hp : ∀ x ∈ ms, x.length ≤ 1048576 ∧ ∀ y ∈ x, y.1.length ≤ 1048576) (h : netB n ls = false ∨ netB n' ms = false ∨ ¬ n = n' ∨ ¬ ls.length = ms.length) :
    Calls Try.prog 25 #[.agg #[.int .i64 n, .slice a ls.length c], .agg #[.int .i64 n', .slice a' ms.length c']] w (RetTB [] 0 false w) := by
  have Hhr := Lib.hid hr
  have Hhq := Lib.hid hq
  have Hhm := Lib.hid hm
  have Hhp := Lib.hid hp
  clear hr hq hm hp
  cases h0 : netB n ls
  · have HN0 := Lib.hid h0
    clear h h0
    go_enter Try.func25, Try.ntmps25
    obtain ⟨wb1, hw1⟩ : ∃ wb1 : World, wb1 = w.alloc (.cells #[.int .i64 n, .slice a ls.length c] 44) := ⟨_, rfl⟩
    obtain ⟨wb2, hw2⟩ : ∃ wb2 : World, wb2 = wb1.alloc (.cells #[.int .i64 n', .slice a' ms.length c'] 44) := ⟨_, rfl⟩
    obtain ⟨wb3, hw3⟩ : ∃ wb3 : World, wb3 = wb2.alloc (.cells #[.int .i64 0, .slice none 0 0] 44) := ⟨_, rfl⟩
    have z1 : wb1.heap.size = w.heap.size + 1 := by rw [hw1]; simp
    have z2 : wb2.heap.size = w.heap.size + 2 := by rw [hw2]; simp; omega
    have z3 : wb3.heap.size = w.heap.size + 3 := by rw [hw3]; simp; omega
    have x0_0 := (by rw [hw3]; exact cell_old _ (by rw [hw2]; exact cell_old _ (by rw [hw1]; exact cell_new _ _ _ rfl rfl : wb1.cell? ⟨w.heap.size, 0, none⟩ = some (.int .i64 n)) : wb2.cell? ⟨w.heap.size, 0, none⟩ = some (.int .i64 n)) : wb3.cell? ⟨w.heap.size, 0, none⟩ = some (.int .i64 n))
    have x0_1 := (by rw [hw3]; exact cell_old _ (by rw [hw2]; exact cell_old _ (by rw [hw1]; exact cell_new _ _ _ rfl rfl : wb1.cell? ⟨w.heap.size, 1, none⟩ = some (.slice a ls.length c)) : wb2.cell? ⟨w.heap.size, 1, none⟩ = some (.slice a ls.length c)) : wb3.cell? ⟨w.heap.size, 1, none⟩ = some (.slice a ls.length c))
    have x1_0 := (by rw [hw3]; exact cell_old _ (by rw [hw2]; exact cell_new _ _ _ z1.symm rfl : wb2.cell? ⟨w.heap.size + 1, 0, none⟩ = some (.int .i64 n')) : wb3.cell? ⟨w.heap.size + 1, 0, none⟩ = some (.int .i64 n'))
    have x1_1 := (by rw [hw3]; exact cell_old _ (by rw [hw2]; exact cell_new _ _ _ z1.symm rfl : wb2.cell? ⟨w.heap.size + 1, 1, none⟩ = some (.slice a' ms.length c')) : wb3.cell? ⟨w.heap.size + 1, 1, none⟩ = some (.slice a' ms.length c'))
    have x2_0 := (by rw [hw3]; exact cell_new _ _ _ z2.symm rfl : wb3.cell? ⟨w.heap.size + 2, 0, none⟩ = some (.int .i64 0))
    have x2_1 := (by rw [hw3]; exact cell_new _ _ _ z2.symm rfl : wb3.cell? ⟨w.heap.size + 2, 1, none⟩ = some (.slice none 0 0))
    have HB0 := Lib.hid (show Below w.heap.size w wb3 by rw [hw3]; exact (show Below w.heap.size w wb2 by rw [hw2]; exact (show Below w.heap.size w wb1 by rw [hw1]; exact (Below.refl w.heap.size w).alloc (Nat.le_refl _) _).alloc (by omega) _).alloc (by omega) _)
    have s3 : w.heap.size + 3 ≤ wb3.heap.size := by omega
    have f2_0 := (by rw [hw3]; exact fro_new _ _ _ z2.symm : wb3.frozen? ⟨w.heap.size + 2, 0, none⟩ = false)
    have f2_1 := (by rw [hw3]; exact fro_new _ _ _ z2.symm : wb3.frozen? ⟨w.heap.size + 2, 1, none⟩ = false)
    have HZ3 := Lib.hid z3
    clear z1 z2 z3
    go_wp2_with fail
    rw [← hw1, ← hw2, ← hw3]
    clear hw1 hw2 hw3
    have HBwb3 := HB0
    refine (netb.impl_net a ls c n wb3 (Hhr.out.below HBwb3.out) hn Hhm.out false HN0).mono ?_
    rintro e' v1 ⟨rfl, hb⟩
    replace x0_0 := cell_below hb x0_0 (by omega)
    replace x0_1 := cell_below hb x0_1 (by omega)
    replace x1_0 := cell_below hb x1_0 (by omega)
    replace x1_1 := cell_below hb x1_1 (by omega)
    replace x2_0 := cell_below hb x2_0 (by omega)
    replace x2_1 := cell_below hb x2_1 (by omega)
    replace f2_0 := fro_below hb f2_0 (by omega)
    replace f2_1 := fro_below hb f2_1 (by omega)
    have HBv1 := Lib.hid (HBwb3.out.trans (hb.mono HBwb3.out.size))
    have sv1 := hb.size
    clear hb
    go_wp2_with fail
    refine bodyPost_ret (v := .tuple #[.agg #[.int .i64 0, .slice none 0 0], .bool false]) (by simp [results, Try.results25, go_sem, x2_0, x2_1, f2_0, f2_1]) rfl ⟨_, rfl, ?_, ?_⟩
    · exact OwnL.nil _ _ _
    · exact ((HBv1.out.setCell (by simp; omega) _).setCell (by simp; omega) _)
  have HN0 := Lib.hid h0
  cases h1 : netB n' ms
  · have HN1 := Lib.hid h1
    clear h h0 h1
    go_enter Try.func25, Try.ntmps25
    obtain ⟨wb1, hw1⟩ : ∃ wb1 : World, wb1 = w.alloc (.cells #[.int .i64 n, .slice a ls.length c] 44) := ⟨_, rfl⟩
    obtain ⟨wb2, hw2⟩ : ∃ wb2 : World, wb2 = wb1.alloc (.cells #[.int .i64 n', .slice a' ms.length c'] 44) := ⟨_, rfl⟩
    obtain ⟨wb3, hw3⟩ : ∃ wb3 : World, wb3 = wb2.alloc (.cells #[.int .i64 0, .slice none 0 0] 44) := ⟨_, rfl⟩
    have z1 : wb1.heap.size = w.heap.size + 1 := by rw [hw1]; simp
    have z2 : wb2.heap.size = w.heap.size + 2 := by rw [hw2]; simp; omega
    have z3 : wb3.heap.size = w.heap.size + 3 := by rw [hw3]; simp; omega
    have x0_0 := (by rw [hw3]; exact cell_old _ (by rw [hw2]; exact cell_old _ (by rw [hw1]; exact cell_new _ _ _ rfl rfl : wb1.cell? ⟨w.heap.size, 0, none⟩ = some (.int .i64 n)) : wb2.cell? ⟨w.heap.size, 0, none⟩ = some (.int .i64 n)) : wb3.cell? ⟨w.heap.size, 0, none⟩ = some (.int .i64 n))
    have x0_1 := (by rw [hw3]; exact cell_old _ (by rw [hw2]; exact cell_old _ (by rw [hw1]; exact cell_new _ _ _ rfl rfl : wb1.cell? ⟨w.heap.size, 1, none⟩ = some (.slice a ls.length c)) : wb2.cell? ⟨w.heap.size, 1, none⟩ = some (.slice a ls.length c)) : wb3.cell? ⟨w.heap.size, 1, none⟩ = some (.slice a ls.length c))
    have x1_0 := (by rw [hw3]; exact cell_old _ (by rw [hw2]; exact cell_new _ _ _ z1.symm rfl : wb2.cell? ⟨w.heap.size + 1, 0, none⟩ = some (.int .i64 n')) : wb3.cell? ⟨w.heap.size + 1, 0, none⟩ = some (.int .i64 n'))
    have x1_1 := (by rw [hw3]; exact cell_old _ (by rw [hw2]; exact cell_new _ _ _ z1.symm rfl : wb2.cell? ⟨w.heap.size + 1, 1, none⟩ = some (.slice a' ms.length c')) : wb3.cell? ⟨w.heap.size + 1, 1, none⟩ = some (.slice a' ms.length c'))
    have x2_0 := (by rw [hw3]; exact cell_new _ _ _ z2.symm rfl : wb3.cell? ⟨w.heap.size + 2, 0, none⟩ = some (.int .i64 0))
    have x2_1 := (by rw [hw3]; exact cell_new _ _ _ z2.symm rfl : wb3.cell? ⟨w.heap.size + 2, 1, none⟩ = some (.slice none 0 0))
    have HB0 := Lib.hid (show Below w.heap.size w wb3 by rw [hw3]; exact (show Below w.heap.size w wb2 by rw [hw2]; exact (show Below w.heap.size w wb1 by rw [hw1]; exact (Below.refl w.heap.size w).alloc (Nat.le_refl _) _).alloc (by omega) _).alloc (by omega) _)
    have s3 : w.heap.size + 3 ≤ wb3.heap.size := by omega
    have f2_0 := (by rw [hw3]; exact fro_new _ _ _ z2.symm : wb3.frozen? ⟨w.heap.size + 2, 0, none⟩ = false)
    have f2_1 := (by rw [hw3]; exact fro_new _ _ _ z2.symm : wb3.frozen? ⟨w.heap.size + 2, 1, none⟩ = false)
    have HZ3 := Lib.hid z3
    clear z1 z2 z3
    go_wp2_with fail
    rw [← hw1, ← hw2, ← hw3]
    clear hw1 hw2 hw3
    have HBwb3 := HB0
    refine (netb.impl_net a ls c n wb3 (Hhr.out.below HBwb3.out) hn Hhm.out true HN0).mono ?_
    rintro e' v1 ⟨rfl, hb⟩
    replace x0_0 := cell_below hb x0_0 (by omega)
    replace x0_1 := cell_below hb x0_1 (by omega)
    replace x1_0 := cell_below hb x1_0 (by omega)
    replace x1_1 := cell_below hb x1_1 (by omega)
    replace x2_0 := cell_below hb x2_0 (by omega)
    replace x2_1 := cell_below hb x2_1 (by omega)
    replace f2_0 := fro_below hb f2_0 (by omega)
    replace f2_1 := fro_below hb f2_1 (by omega)
    have HBv1 := Lib.hid (HBwb3.out.trans (hb.mono HBwb3.out.size))
    have sv1 := hb.size
    clear hb
    go_wp2_with fail
    refine (netb.impl_net a' ms c' n' v1 (Hhq.out.below HBv1.out) hk Hhp.out false HN1).mono ?_
    rintro e' v2 ⟨rfl, hb⟩
    replace x0_0 := cell_below hb x0_0 (by omega)
    replace x0_1 := cell_below hb x0_1 (by omega)
    replace x1_0 := cell_below hb x1_0 (by omega)
    replace x1_1 := cell_below hb x1_1 (by omega)
    replace x2_0 := cell_below hb x2_0 (by omega)
    replace x2_1 := cell_below hb x2_1 (by omega)
    replace f2_0 := fro_below hb f2_0 (by omega)
    replace f2_1 := fro_below hb f2_1 (by omega)
    have HBv2 := Lib.hid (HBv1.out.trans (hb.mono HBv1.out.size))
    have sv2 := hb.size
    clear hb
    go_wp2_with fail
    refine bodyPost_ret (v := .tuple #[.agg #[.int .i64 0, .slice none 0 0], .bool false]) (by simp [results, Try.results25, go_sem, x2_0, x2_1, f2_0, f2_1]) rfl ⟨_, rfl, ?_, ?_⟩
    · exact OwnL.nil _ _ _
    · exact ((HBv2.out.setCell (by simp; omega) _).setCell (by simp; omega) _)
  have HN1 := Lib.hid h1
  by_cases hnn : n = n'
  · have hll : ¬ ls.length = ms.length := by
      rcases h with h | h | h | h
      · rw [h0] at h; cases h
      · rw [h1] at h; cases h
      · exact absurd hnn h
      · exact h
    have g3 : (n != n') = false := by simpa using hnn
    have g4 : ((ls.length : Int) != (ms.length : Int)) = true := by simp; omega
    have g5 : ¬ (ls.length : Int) = (ms.length : Int) := by omega
    have hlz : (ls.length : Int) ≠ (ms.length : Int) := by omega
    clear h h0 h1 hll g3
    subst hnn
    go_enter Try.func25, Try.ntmps25
    obtain ⟨wb1, hw1⟩ : ∃ wb1 : World, wb1 = w.alloc (.cells #[.int .i64 n, .slice a ls.length c] 44) := ⟨_, rfl⟩
    obtain ⟨wb2, hw2⟩ : ∃ wb2 : World, wb2 = wb1.alloc (.cells #[.int .i64 n, .slice a' ms.length c'] 44) := ⟨_, rfl⟩
    obtain ⟨wb3, hw3⟩ : ∃ wb3 : World, wb3 = wb2.alloc (.cells #[.int .i64 0, .slice none 0 0] 44) := ⟨_, rfl⟩
    have z1 : wb1.heap.size = w.heap.size + 1 := by rw [hw1]; simp
    have z2 : wb2.heap.size = w.heap.size + 2 := by rw [hw2]; simp; omega
    have z3 : wb3.heap.size = w.heap.size + 3 := by rw [hw3]; simp; omega
    have x0_0 := (by rw [hw3]; exact cell_old _ (by rw [hw2]; exact cell_old _ (by rw [hw1]; exact cell_new _ _ _ rfl rfl : wb1.cell? ⟨w.heap.size, 0, none⟩ = some (.int .i64 n)) : wb2.cell? ⟨w.heap.size, 0, none⟩ = some (.int .i64 n)) : wb3.cell? ⟨w.heap.size, 0, none⟩ = some (.int .i64 n))
    have x0_1 := (by rw [hw3]; exact cell_old _ (by rw [hw2]; exact cell_old _ (by rw [hw1]; exact cell_new _ _ _ rfl rfl : wb1.cell? ⟨w.heap.size, 1, none⟩ = some (.slice a ls.length c)) : wb2.cell? ⟨w.heap.size, 1, none⟩ = some (.slice a ls.length c)) : wb3.cell? ⟨w.heap.size, 1, none⟩ = some (.slice a ls.length c))
    have x1_0 := (by rw [hw3]; exact cell_old _ (by rw [hw2]; exact cell_new _ _ _ z1.symm rfl : wb2.cell? ⟨w.heap.size + 1, 0, none⟩ = some (.int .i64 n)) : wb3.cell? ⟨w.heap.size + 1, 0, none⟩ = some (.int .i64 n))
    have x1_1 := (by rw [hw3]; exact cell_old _ (by rw [hw2]; exact cell_new _ _ _ z1.symm rfl : wb2.cell? ⟨w.heap.size + 1, 1, none⟩ = some (.slice a' ms.length c')) : wb3.cell? ⟨w.heap.size + 1, 1, none⟩ = some (.slice a' ms.length c'))
    have x2_0 := (by rw [hw3]; exact cell_new _ _ _ z2.symm rfl : wb3.cell? ⟨w.heap.size + 2, 0, none⟩ = some (.int .i64 0))
    have x2_1 := (by rw [hw3]; exact cell_new _ _ _ z2.symm rfl : wb3.cell? ⟨w.heap.size + 2, 1, none⟩ = some (.slice none 0 0))
    have HB0 := Lib.hid (show Below w.heap.size w wb3 by rw [hw3]; exact (show Below w.heap.size w wb2 by rw [hw2]; exact (show Below w.heap.size w wb1 by rw [hw1]; exact (Below.refl w.heap.size w).alloc (Nat.le_refl _) _).alloc (by omega) _).alloc (by omega) _)
    have s3 : w.heap.size + 3 ≤ wb3.heap.size := by omega
    have f2_0 := (by rw [hw3]; exact fro_new _ _ _ z2.symm : wb3.frozen? ⟨w.heap.size + 2, 0, none⟩ = false)
    have f2_1 := (by rw [hw3]; exact fro_new _ _ _ z2.symm : wb3.frozen? ⟨w.heap.size + 2, 1, none⟩ = false)
    have HZ3 := Lib.hid z3
    clear z1 z2 z3
    go_wp2_with fail
    rw [← hw1, ← hw2, ← hw3]
    clear hw1 hw2 hw3
    have HBwb3 := HB0
    refine (netb.impl_net a ls c n wb3 (Hhr.out.below HBwb3.out) hn Hhm.out true HN0).mono ?_
    rintro e' v1 ⟨rfl, hb⟩
    replace x0_0 := cell_below hb x0_0 (by omega)
    replace x0_1 := cell_below hb x0_1 (by omega)
    replace x1_0 := cell_below hb x1_0 (by omega)
    replace x1_1 := cell_below hb x1_1 (by omega)
    replace x2_0 := cell_below hb x2_0 (by omega)
    replace x2_1 := cell_below hb x2_1 (by omega)
    replace f2_0 := fro_below hb f2_0 (by omega)
    replace f2_1 := fro_below hb f2_1 (by omega)
    have HBv1 := Lib.hid (HBwb3.out.trans (hb.mono HBwb3.out.size))
    have sv1 := hb.size
    clear hb
    go_wp2_with fail
    refine (netb.impl_net a' ms c' n v1 (Hhq.out.below HBv1.out) hk Hhp.out true HN1).mono ?_
    rintro e' v2 ⟨rfl, hb⟩
    replace x0_0 := cell_below hb x0_0 (by omega)
    replace x0_1 := cell_below hb x0_1 (by omega)
    replace x1_0 := cell_below hb x1_0 (by omega)
    replace x1_1 := cell_below hb x1_1 (by omega)
    replace x2_0 := cell_below hb x2_0 (by omega)
    replace x2_1 := cell_below hb x2_1 (by omega)
    replace f2_0 := fro_below hb f2_0 (by omega)
    replace f2_1 := fro_below hb f2_1 (by omega)
    have HBv2 := Lib.hid (HBv1.out.trans (hb.mono HBv1.out.size))
    have sv2 := hb.size
    clear hb
    go_wp2_with fail
    refine bodyPost_ret (v := .tuple #[.agg #[.int .i64 0, .slice none 0 0], .bool false]) (by simp [results, Try.results25, go_sem, x2_0, x2_1, f2_0, f2_1]) rfl ⟨_, rfl, ?_, ?_⟩
    · exact OwnL.nil _ _ _
    · exact ((HBv2.out.setCell (by simp; omega) _).setCell (by simp; omega) _)
  · have g3 : (n != n') = true := by simpa using hnn
    clear h h0 h1
    go_enter Try.func25, Try.ntmps25
    obtain ⟨wb1, hw1⟩ : ∃ wb1 : World, wb1 = w.alloc (.cells #[.int .i64 n, .slice a ls.length c] 44) := ⟨_, rfl⟩
    obtain ⟨wb2, hw2⟩ : ∃ wb2 : World, wb2 = wb1.alloc (.cells #[.int .i64 n', .slice a' ms.length c'] 44) := ⟨_, rfl⟩
    obtain ⟨wb3, hw3⟩ : ∃ wb3 : World, wb3 = wb2.alloc (.cells #[.int .i64 0, .slice none 0 0] 44) := ⟨_, rfl⟩
    have z1 : wb1.heap.size = w.heap.size + 1 := by rw [hw1]; simp
    have z2 : wb2.heap.size = w.heap.size + 2 := by rw [hw2]; simp; omega
    have z3 : wb3.heap.size = w.heap.size + 3 := by rw [hw3]; simp; omega
    have x0_0 := (by rw [hw3]; exact cell_old _ (by rw [hw2]; exact cell_old _ (by rw [hw1]; exact cell_new _ _ _ rfl rfl : wb1.cell? ⟨w.heap.size, 0, none⟩ = some (.int .i64 n)) : wb2.cell? ⟨w.heap.size, 0, none⟩ = some (.int .i64 n)) : wb3.cell? ⟨w.heap.size, 0, none⟩ = some (.int .i64 n))
    have x0_1 := (by rw [hw3]; exact cell_old _ (by rw [hw2]; exact cell_old _ (by rw [hw1]; exact cell_new _ _ _ rfl rfl : wb1.cell? ⟨w.heap.size, 1, none⟩ = some (.slice a ls.length c)) : wb2.cell? ⟨w.heap.size, 1, none⟩ = some (.slice a ls.length c)) : wb3.cell? ⟨w.heap.size, 1, none⟩ = some (.slice a ls.length c))
    have x1_0 := (by rw [hw3]; exact cell_old _ (by rw [hw2]; exact cell_new _ _ _ z1.symm rfl : wb2.cell? ⟨w.heap.size + 1, 0, none⟩ = some (.int .i64 n')) : wb3.cell? ⟨w.heap.size + 1, 0, none⟩ = some (.int .i64 n'))
    have x1_1 := (by rw [hw3]; exact cell_old _ (by rw [hw2]; exact cell_new _ _ _ z1.symm rfl : wb2.cell? ⟨w.heap.size + 1, 1, none⟩ = some (.slice a' ms.length c')) : wb3.cell? ⟨w.heap.size + 1, 1, none⟩ = some (.slice a' ms.length c'))
    have x2_0 := (by rw [hw3]; exact cell_new _ _ _ z2.symm rfl : wb3.cell? ⟨w.heap.size + 2, 0, none⟩ = some (.int .i64 0))
    have x2_1 := (by rw [hw3]; exact cell_new _ _ _ z2.symm rfl : wb3.cell? ⟨w.heap.size + 2, 1, none⟩ = some (.slice none 0 0))
    have HB0 := Lib.hid (show Below w.heap.size w wb3 by rw [hw3]; exact (show Below w.heap.size w wb2 by rw [hw2]; exact (show Below w.heap.size w wb1 by rw [hw1]; exact (Below.refl w.heap.size w).alloc (Nat.le_refl _) _).alloc (by omega) _).alloc (by omega) _)
    have s3 : w.heap.size + 3 ≤ wb3.heap.size := by omega
    have f2_0 := (by rw [hw3]; exact fro_new _ _ _ z2.symm : wb3.frozen? ⟨w.heap.size + 2, 0, none⟩ = false)
    have f2_1 := (by rw [hw3]; exact fro_new _ _ _ z2.symm : wb3.frozen? ⟨w.heap.size + 2, 1, none⟩ = false)
    have HZ3 := Lib.hid z3
    clear z1 z2 z3
    go_wp2_with fail
    rw [← hw1, ← hw2, ← hw3]
    clear hw1 hw2 hw3
    have HBwb3 := HB0
    refine (netb.impl_net a ls c n wb3 (Hhr.out.below HBwb3.out) hn Hhm.out true HN0).mono ?_
    rintro e' v1 ⟨rfl, hb⟩
    replace x0_0 := cell_below hb x0_0 (by omega)
    replace x0_1 := cell_below hb x0_1 (by omega)
    replace x1_0 := cell_below hb x1_0 (by omega)
    replace x1_1 := cell_below hb x1_1 (by omega)
    replace x2_0 := cell_below hb x2_0 (by omega)
    replace x2_1 := cell_below hb x2_1 (by omega)
    replace f2_0 := fro_below hb f2_0 (by omega)
    replace f2_1 := fro_below hb f2_1 (by omega)
    have HBv1 := Lib.hid (HBwb3.out.trans (hb.mono HBwb3.out.size))
    have sv1 := hb.size
    clear hb
    go_wp2_with fail
    refine (netb.impl_net a' ms c' n' v1 (Hhq.out.below HBv1.out) hk Hhp.out true HN1).mono ?_
    rintro e' v2 ⟨rfl, hb⟩
    replace x0_0 := cell_below hb x0_0 (by omega)
    replace x0_1 := cell_below hb x0_1 (by omega)
    replace x1_0 := cell_below hb x1_0 (by omega)
    replace x1_1 := cell_below hb x1_1 (by omega)
    replace x2_0 := cell_below hb x2_0 (by omega)
    replace x2_1 := cell_below hb x2_1 (by omega)
    replace f2_0 := fro_below hb f2_0 (by omega)
    replace f2_1 := fro_below hb f2_1 (by omega)
    have HBv2 := Lib.hid (HBv1.out.trans (hb.mono HBv1.out.size))
    have sv2 := hb.size
    clear hb
    go_wp2_with fail
    refine bodyPost_ret (v := .tuple #[.agg #[.int .i64 0, .slice none 0 0], .bool false]) (by simp [results, Try.results25, go_sem, x2_0, x2_1, f2_0, f2_1]) rfl ⟨_, rfl, ?_, ?_⟩
    · exact OwnL.nil _ _ _
    · exact ((HBv2.out.setCell (by simp; omega) _).setCell (by simp; omega) _)
set_option maxRecDepth 100000 in
set_option maxHeartbeats 16000000 in
theorem impl_jn_yes (a : Option Addr) (ls : List (List (List Int × Int))) (c : Nat) (n : Int) (a' : Option Addr) (ms : List (List (List Int × Int))) (c' : Nat) (n' : Int) (w : World) (hr : ReadsL w a ls) (hq : ReadsL w a' ms) (hn : ls.length ≤ 1048576) (hk : ms.length ≤ 1048576) (hm : ∀ x ∈ ls, x.length ≤ 1048576 ∧ ∀ y ∈ x, y.1.length ≤ 1048576) (hp : ∀ x ∈ ms, x.length ≤ 1048576 ∧ ∀ y ∈ x, y.1.length ≤ 1048576) (h : netB n ls = true ∧ netB n' ms = true ∧ n = n' ∧ ls.length = ms.length ∧ fitJ ls ms = true) :
    Calls Try.prog 25 #[.agg #[.int .i64 n, .slice a ls.length c], .agg #[.int .i64 n', .slice a' ms.length c']] w (RetTB (jnT ls ms ls.length) n true w) := by
  obtain ⟨j0, hj, hjz0, hjz1, hjz2⟩ := info_parts infoJ
  have Hhr := Lib.hid hr
  have Hhq := Lib.hid hq
  have Hhm := Lib.hid hm
  have Hhp := Lib.hid hp
  clear hr hq hm hp
  obtain ⟨h0, h1, hnn, hll, hfit⟩ := h
  subst hnn
  have HN0 := Lib.hid h0
  have HN1 := Lib.hid h1
  have HL6 := Lib.hid (show 1 ≤ ls.length ∧ ls.length ≤ 6 from net_len h0)
  have HG1 := Lib.hid (show ∀ i, i < ls.length → (1 ≤ (ls.getD i []).length ∧ (ls.getD i []).length ≤ 4) ∧ (1 ≤ (ms.getD i []).length ∧ (ms.getD i []).length ≤ 4) from fun i hi => ⟨net_lay h0 i hi, net_lay h1 i (by omega)⟩)
  have HW1 := Lib.hid (show ∀ i, i < ls.length → ∀ k, k < (ls.getD i []).length → 1 ≤ ((ls.getD i []).getD k ([], 0)).1.length ∧ ((ls.getD i []).getD k ([], 0)).1.length ≤ 100 from fun i hi k hk => by
    have := (planeB_iff _ _).1 ((gateB_iff _ _).1 (net_gate h0 i hi k hk)).1
    omega)
  have HW2 := Lib.hid (show ∀ i, i < ls.length → ∀ k, k < (ms.getD i []).length → 1 ≤ ((ms.getD i []).getD k ([], 0)).1.length ∧ ((ms.getD i []).getD k ([], 0)).1.length ≤ 100 from fun i hi k hk => by
    have := (planeB_iff _ _).1 ((gateB_iff _ _).1 (net_gate h1 i (by omega) k hk)).1
    omega)
  have HPV := Lib.hid (show ∀ i, i ≤ ls.length → prv ls i ≤ 4 ∧ prv ms i ≤ 4 from fun i hi => ⟨prv_le h0 i hi, prv_le h1 i (by omega)⟩)
  have HLL := Lib.hid hll
  have g4 : ((ls.length : Int) != (ms.length : Int)) = false := by simp; omega
  have HJB := Lib.hid (show netB n (jnT ls ms ls.length) = true by rw [net_jn h0 h1 hll]; exact hfit)
  have HJM := Lib.hid (jn_small h0 h1 hll)
  clear h0 h1 hll hfit
  go_enter Try.func25, Try.ntmps25
  obtain ⟨wb1, hw1⟩ : ∃ wb1 : World, wb1 = w.alloc (.cells #[.int .i64 n, .slice a ls.length c] 44) := ⟨_, rfl⟩
  obtain ⟨wb2, hw2⟩ : ∃ wb2 : World, wb2 = wb1.alloc (.cells #[.int .i64 n, .slice a' ms.length c'] 44) := ⟨_, rfl⟩
  obtain ⟨wb3, hw3⟩ : ∃ wb3 : World, wb3 = wb2.alloc (.cells #[.int .i64 0, .slice none 0 0] 44) := ⟨_, rfl⟩
  have z1 : wb1.heap.size = w.heap.size + 1 := by rw [hw1]; simp
  have z2 : wb2.heap.size = w.heap.size + 2 := by rw [hw2]; simp; omega
  have z3 : wb3.heap.size = w.heap.size + 3 := by rw [hw3]; simp; omega
  have x0_0 := (by rw [hw3]; exact cell_old _ (by rw [hw2]; exact cell_old _ (by rw [hw1]; exact cell_new _ _ _ rfl rfl : wb1.cell? ⟨w.heap.size, 0, none⟩ = some (.int .i64 n)) : wb2.cell? ⟨w.heap.size, 0, none⟩ = some (.int .i64 n)) : wb3.cell? ⟨w.heap.size, 0, none⟩ = some (.int .i64 n))
  have x0_1 := (by rw [hw3]; exact cell_old _ (by rw [hw2]; exact cell_old _ (by rw [hw1]; exact cell_new _ _ _ rfl rfl : wb1.cell? ⟨w.heap.size, 1, none⟩ = some (.slice a ls.length c)) : wb2.cell? ⟨w.heap.size, 1, none⟩ = some (.slice a ls.length c)) : wb3.cell? ⟨w.heap.size, 1, none⟩ = some (.slice a ls.length c))
  have x1_0 := (by rw [hw3]; exact cell_old _ (by rw [hw2]; exact cell_new _ _ _ z1.symm rfl : wb2.cell? ⟨w.heap.size + 1, 0, none⟩ = some (.int .i64 n)) : wb3.cell? ⟨w.heap.size + 1, 0, none⟩ = some (.int .i64 n))
  have x1_1 := (by rw [hw3]; exact cell_old _ (by rw [hw2]; exact cell_new _ _ _ z1.symm rfl : wb2.cell? ⟨w.heap.size + 1, 1, none⟩ = some (.slice a' ms.length c')) : wb3.cell? ⟨w.heap.size + 1, 1, none⟩ = some (.slice a' ms.length c'))
  have x2_0 := (by rw [hw3]; exact cell_new _ _ _ z2.symm rfl : wb3.cell? ⟨w.heap.size + 2, 0, none⟩ = some (.int .i64 0))
  have x2_1 := (by rw [hw3]; exact cell_new _ _ _ z2.symm rfl : wb3.cell? ⟨w.heap.size + 2, 1, none⟩ = some (.slice none 0 0))
  have HB0 := Lib.hid (show Below w.heap.size w wb3 by rw [hw3]; exact (show Below w.heap.size w wb2 by rw [hw2]; exact (show Below w.heap.size w wb1 by rw [hw1]; exact (Below.refl w.heap.size w).alloc (Nat.le_refl _) _).alloc (by omega) _).alloc (by omega) _)
  have s3 : w.heap.size + 3 ≤ wb3.heap.size := by omega
  have f2_0 := (by rw [hw3]; exact fro_new _ _ _ z2.symm : wb3.frozen? ⟨w.heap.size + 2, 0, none⟩ = false)
  have f2_1 := (by rw [hw3]; exact fro_new _ _ _ z2.symm : wb3.frozen? ⟨w.heap.size + 2, 1, none⟩ = false)
  have HZ3 := Lib.hid z3
  clear z1 z2 z3
  go_wp2_with fail
  rw [← hw1, ← hw2, ← hw3]
  clear hw1 hw2 hw3
  have HBwb3 := HB0
  refine (netb.impl_net a ls c n wb3 (Hhr.out.below HBwb3.out) hn Hhm.out true HN0).mono ?_
  rintro e' v1 ⟨rfl, hb⟩
  replace x0_0 := cell_below hb x0_0 (by omega)
  replace x0_1 := cell_below hb x0_1 (by omega)
  replace x1_0 := cell_below hb x1_0 (by omega)
  replace x1_1 := cell_below hb x1_1 (by omega)
  replace x2_0 := cell_below hb x2_0 (by omega)
  replace x2_1 := cell_below hb x2_1 (by omega)
  replace f2_0 := fro_below hb f2_0 (by omega)
  replace f2_1 := fro_below hb f2_1 (by omega)
  have HBv1 := Lib.hid (HBwb3.out.trans (hb.mono HBwb3.out.size))
  have sv1 := hb.size
  clear hb
  go_wp2_with fail
  refine (netb.impl_net a' ms c' n v1 (Hhq.out.below HBv1.out) hk Hhp.out true HN1).mono ?_
  rintro e' v2 ⟨rfl, hb⟩
  replace x0_0 := cell_below hb x0_0 (by omega)
  replace x0_1 := cell_below hb x0_1 (by omega)
  replace x1_0 := cell_below hb x1_0 (by omega)
  replace x1_1 := cell_below hb x1_1 (by omega)
  replace x2_0 := cell_below hb x2_0 (by omega)
  replace x2_1 := cell_below hb x2_1 (by omega)
  replace f2_0 := fro_below hb f2_0 (by omega)
  replace f2_1 := fro_below hb f2_1 (by omega)
  have HBv2 := Lib.hid (HBv1.out.trans (hb.mono HBv1.out.size))
  have sv2 := hb.size
  clear hb
  have hw3 : w.heap.size + 2 < v2.heap.size := by omega
  have hown0 := World.ownsRow_made (base := v2.heap.size) (e := 110) (size := 1) v2 #[] 0 (Nat.le_refl _) (by unfold maxLen; omega) rfl
  have hol0 : OwnLK v2.heap.size (v2.alloc (.cells #[] 110)).heap.size (v2.alloc (.cells #[] 110)) (.slice (some ⟨v2.heap.size, 0, none⟩) 0 0) [] [] [] := ⟨hown0, fun g e => (hown0.lt g e).2, LaysOf.nil _ _ _⟩
  have hb0 := below_alloc v2 (.cells #[] 110)
  have xa := cell_below hb0 x0_1 (by omega)
  clear hown0
  go_wp2_with fail
  go_loopw [6, 7, 8, 41] (fun v fa fb i wr => ∃ (k : Nat) (vs : List Value) (css : List (List Value)), k ≤ ls.length ∧ i = .int .i64 k ∧ fa = .int .i64 (prv ls k : Nat) ∧ fb = .int .i64 (prv ms k : Nat) ∧ OwnLK v2.heap.size wr.heap.size wr v (jnT ls ms k) vs css ∧ Below v2.heap.size v2 wr) (fun _ _ _ i _ => ls.length - (intOf i).toNat)
  case atStart => exact ⟨0, [], [], Nat.zero_le _, rfl, rfl, rfl, hol0, hb0⟩
  case round =>
    obtain ⟨k, vs, css, hk9, rfl, rfl, rfl, hown, hbel⟩ := hrel
    have hsz := hbel.size
    have HO := Lib.hid hown
    have HBl := Lib.hid hbel
    have HBw := Lib.hid (HBv2.out.trans (hbel.mono (by omega : w.heap.size ≤ v2.heap.size)))
    replace x0_0 := cell_below hbel x0_0 (by omega)
    replace x0_1 := cell_below hbel x0_1 (by omega)
    replace x1_0 := cell_below hbel x1_0 (by omega)
    replace x1_1 := cell_below hbel x1_1 (by omega)
    replace x2_0 := cell_below hbel x2_0 (by omega)
    replace x2_1 := cell_below hbel x2_1 (by omega)
    replace f2_0 := fro_below hbel f2_0 (by omega)
    replace f2_1 := fro_below hbel f2_1 (by omega)
    clear hol0 hb0 hown hbel xa
    by_cases hlt : k < ls.length
    · obtain ⟨bl, off, pl, cl, hab, hbl, hcl, _, hlay⟩ := (Hhr.out.below HBw.out).at hlt
      obtain ⟨bm, om, pm, cm, hab', hbm, hcm, _, hlam⟩ := (Hhq.out.below HBw.out).at (show k < ms.length by have := HLL.out; omega)
      subst hab
      subst hab'
      have hkm : (k : Int) < (ms.length : Int) := by have := HLL.out; omega
      have hkl : (k : Int) < (ls.length : Int) := by omega
      have hk0 : (0 : Int) ≤ (k : Int) := by omega
      have HTK := Lib.hid (show jnT ls ms (k + 1) = jnT ls ms k ++ [widJ 0 (prv ms k) (ls.getD k []) ++ widJ (prv ls k) 0 (ms.getD k [])] from jnT_succ ls ms k)
      have HTJ := Lib.hid (jnT_len ls ms k)
      have HPA := Lib.hid (prv_succ ls k)
      have HPB := Lib.hid (prv_succ ms k)
      have hg1 := HG1.out k hlt
      have hw1 := HW1.out k hlt
      have hw2 := HW2.out k hlt
      have hpv := HPV.out k (by omega)
      have hk6 := HL6.out
      generalize ls.getD k [] = l at *
      generalize ms.getD k [] = m at *
      generalize prv ls k = px at *
      generalize prv ms k = py at *
      have HWA := Lib.hid (fun (wa : World) (hb : Below wr.heap.size wr wa) => (show Calls Try.prog 91 #[.slice pl l.length cl, .int .i64 0, .int .i64 py] wa _ from widg.impl_wide 0 py pl l cl wa (by omega) (by omega) (hlay.below hb) (by omega) hw1))
      have HWB := Lib.hid (fun (wa : World) (hb : Below wr.heap.size wr wa) => (show Calls Try.prog 91 #[.slice pm m.length cm, .int .i64 px, .int .i64 0] wa _ from widg.impl_wide px 0 pm m cm wa (by omega) (by omega) (hlam.below hb) (by omega) hw2))
      clear hlay hlam hw1 hw2
      go_wp2_with fail
      refine (HWA.out _ (Below.refl _ _)).mono ?_
      rintro e1 wA ⟨p1, q1, cs1, rfl, hk1, hbA⟩
      have HBA := Lib.hid hbA
      have HK1 := Lib.hid hk1
      have sA := hbA.size
      clear hbA hk1
      go_wp2_with fail
      refine (HWB.out _ HBA.out).mono ?_
      rintro e2 wB ⟨p2, q2, cs2, rfl, hk2, hbB⟩
      have sB := hbB.size
      have HBB := Lib.hid (HBA.out.trans (hbB.mono sA))
      have HK1b := Lib.hid (widc.k_below HK1.out hbB)
      have HK2 := Lib.hid hk2
      clear hbB hk2 HK1
      go_wp2_with fail
      obtain ⟨L1, hL1⟩ : ∃ L1, L1 = widJ 0 py l := ⟨_, rfl⟩
      obtain ⟨L2, hL2⟩ : ∃ L2, L2 = widJ px 0 m := ⟨_, rfl⟩
      have e1 : L1.length = l.length := by rw [hL1, wid_len]
      have e2 : L2.length = m.length := by rw [hL2, wid_len]
      rw [← hL1, ← hL2] at HTK
      rw [← hL1] at HK1b
      rw [← hL2] at HK2
      clear hL1 hL2
      have c50 : (wB.alloc (.cells #[.slice p1 l.length q1, .slice p2 m.length q2] 110)).cell? ⟨wB.heap.size, 0, none⟩ = some (.slice p1 l.length q1) := cell_new _ _ _ rfl rfl
      have c51 : (wB.alloc (.cells #[.slice p1 l.length q1, .slice p2 m.length q2] 110)).cell? ⟨wB.heap.size, 1, none⟩ = some (.slice p2 m.length q2) := cell_new _ _ _ rfl rfl
      have hbC := below_alloc wB (.cells #[.slice p1 l.length q1, .slice p2 m.length q2] 110)
      have hltC := size_alloc' wB (.cells #[.slice p1 l.length q1, .slice p2 m.length q2] 110)
      have HK1c := Lib.hid (widc.k_below HK1b.out hbC)
      have HK2c := Lib.hid (widc.k_below HK2.out hbC)
      obtain ⟨B5, hB5⟩ : ∃ B5 : Nat, B5 = wB.heap.size := ⟨_, rfl⟩
      rw [← hB5] at c50 c51 ⊢
      have HBC := Lib.hid (HBB.out.trans (hbC.mono HBB.out.size))
      generalize hwC : wB.alloc (.cells #[.slice p1 l.length q1, .slice p2 m.length q2] 110) = wC at *
      clear hwC hbC HK1b HK2
      have sC := HBC.out.size
      have hcat := widc.cat2 B5 2 q1 q2 p1 p2 L1 L2 cs1 cs2 wr.heap.size wA.heap.size wB.heap.size wC (by rw [e1]; exact HK1c.out) (by rw [e2]; exact HK2c.out) (by omega) (by omega) (by omega) (by rw [e1]; exact c50) (by rw [e2]; exact c51) sA sB (by omega)
      refine hcat.mono ?_
      clear hcat
      rintro e3 w2 ⟨p3, q3, rfl, hk3, hb3⟩
      generalize L1 ++ L2 = L3 at *
      have HBX := Lib.hid (HBC.out.trans (hb3.mono sC))
      have sX := HBX.out.size
      have HK3 := Lib.hid hk3
      clear hk3 hb3 c50 c51
      have HB3 := Lib.hid (below_alloc w2 (.cells #[.slice p3 L3.length q3] 110))
      have hs3 := HB3.out.size
      have HX3 := Lib.hid (HBX.out.trans (HB3.out.mono sX))
      have hvb := fun g (e : u6.ownBlock = some g) => HO.out.1.lt g e
      have hro := ownsRow_block (w' := w2.alloc (.cells #[.slice p3 L3.length q3] 110)) HO.out.1 (fun g hg => HX3.out.block g (hvb g hg).2)
      rw [HTJ.out] at hro
      have HRO := Lib.hid hro
      have HOC := Lib.hid ((widc.k_below HK3.out HB3.out).widen (Nat.le_refl _) hs3)
      have HVB := Lib.hid hvb
      clear hro hvb
      go_wp2_with (at_builtin; refine wpList_append_own _ rfl _ _ 42 rfl v2.heap.size 110 j0 (.slice none 0 0) 1 24 Try.underlying42 hj hjz0 hjz1 hjz2 rfl (by decide) _ _ _ rfl HRO.out ⟨w2.heap.size, 0, none⟩ 1 1 [.slice p3 L3.length q3] rfl rfl (cell_one_new _ _ _) (by simp [Value.oneCell']) (by unfold maxLen; omega) (by omega) (by simp; omega) ?_; intro v' w5 hown' hgrow _)
      have HPU := Lib.hid (chk.lk_push HO.out HX3.out (by omega) HOC.out (by rw [HTJ.out]; exact hown') hgrow)
      have HB5 := Lib.hid (show Below v2.heap.size v2 w5 from (HBl.out.trans (HX3.out.mono hsz)).grown hgrow (by omega) (fun g e => (HVB.out g e).1))
      clear hown' hgrow
      go_wp2_with fail
      go_roundw
      case rel => exact ⟨k + 1, _, _, by omega, by go_num, by rw [HPA.out], by rw [HPB.out], by rw [HTK.out]; exact HPU.out, HB5.out⟩
      case measure => simp [intOf]; omega
    · obtain rfl : k = ls.length := by omega
      have hoj := HO.out
      generalize jnT ls ms ls.length = J at *
      obtain ⟨pn, qn, hvn, _, _, hJl⟩ := (show OwnL v2.heap.size wr.heap.size wr u6 J from ⟨_, _, hoj⟩).slice
      subst hvn
      have HF := Lib.hid hoj
      clear hoj HO
      go_wp2_with fail
      refine (chk.chk_yes pn J qn n wr (show OwnL _ _ _ _ _ from ⟨_, _, HF.out⟩).reads (by have := HJM.out.1; omega) (fun x hx => ⟨by have := (HJM.out.2 x hx).1; omega, fun y hy => by have := (HJM.out.2 x hx).2 y hy; omega⟩) HJB.out).mono ?_
      rintro e' w4 ⟨rfl, hb⟩
      have s4 := hb.size
      have HO4 := Lib.hid ((show OwnL v2.heap.size w4.heap.size w4 (.slice pn J.length qn) J from (OwnL.below ⟨_, _, HF.out⟩ hb).mono (Nat.le_refl _) hb.size))
      replace x0_0 := cell_below hb x0_0 (by omega)
      replace x0_1 := cell_below hb x0_1 (by omega)
      replace x1_0 := cell_below hb x1_0 (by omega)
      replace x1_1 := cell_below hb x1_1 (by omega)
      replace x2_0 := cell_below hb x2_0 (by omega)
      replace x2_1 := cell_below hb x2_1 (by omega)
      replace f2_0 := fro_below hb f2_0 (by omega)
      replace f2_1 := fro_below hb f2_1 (by omega)
      have HBR := Lib.hid (HBw.out.trans (hb.mono HBw.out.size))
      clear hb
      go_wp2_with fail
      refine bodyPost_ret (v := .tuple #[.agg #[.int .i64 n, .slice pn J.length qn], .bool true]) (by simp [results, Try.results25, go_sem, x2_0, x2_1, f2_0, f2_1]) rfl ⟨_, rfl, ?_, ?_⟩
      · simp only [size_set]; exact ((HO4.out.set (by show w.heap.size + 2 < _; omega) _).set (by show w.heap.size + 2 < _; omega) _).mono (by omega) (Nat.le_refl _)
      · exact (HBR.out.setCell (by simp; omega) _).setCell (by simp; omega) _
set_option maxRecDepth 100000 in
set_option maxHeartbeats 16000000 in
theorem impl_jn_out (a : Option Addr) (ls : List (List (List Int × Int))) (c : Nat) (n : Int) (a' : Option Addr) (ms : List (List (List Int × Int))) (c' : Nat) (n' : Int) (w : World) (hr : ReadsL w a ls) (hq : ReadsL w a' ms) (hn : ls.length ≤ 1048576) (hk : ms.length ≤ 1048576) (hm : ∀ x ∈ ls, x.length ≤ 1048576 ∧ ∀ y ∈ x, y.1.length ≤ 1048576) (hp : ∀ x ∈ ms, x.length ≤ 1048576 ∧ ∀ y ∈ x, y.1.length ≤ 1048576) (h : netB n ls = true ∧ netB n' ms = true ∧ n = n' ∧ ls.length = ms.length ∧ fitJ ls ms = false) :
    Calls Try.prog 25 #[.agg #[.int .i64 n, .slice a ls.length c], .agg #[.int .i64 n', .slice a' ms.length c']] w (RetTB [] 0 false w) := by
  obtain ⟨j0, hj, hjz0, hjz1, hjz2⟩ := info_parts infoJ
  have Hhr := Lib.hid hr
  have Hhq := Lib.hid hq
  have Hhm := Lib.hid hm
  have Hhp := Lib.hid hp
  clear hr hq hm hp
  obtain ⟨h0, h1, hnn, hll, hfit⟩ := h
  subst hnn
  have HN0 := Lib.hid h0
  have HN1 := Lib.hid h1
  have HL6 := Lib.hid (show 1 ≤ ls.length ∧ ls.length ≤ 6 from net_len h0)
  have HG1 := Lib.hid (show ∀ i, i < ls.length → (1 ≤ (ls.getD i []).length ∧ (ls.getD i []).length ≤ 4) ∧ (1 ≤ (ms.getD i []).length ∧ (ms.getD i []).length ≤ 4) from fun i hi => ⟨net_lay h0 i hi, net_lay h1 i (by omega)⟩)
  have HW1 := Lib.hid (show ∀ i, i < ls.length → ∀ k, k < (ls.getD i []).length → 1 ≤ ((ls.getD i []).getD k ([], 0)).1.length ∧ ((ls.getD i []).getD k ([], 0)).1.length ≤ 100 from fun i hi k hk => by
    have := (planeB_iff _ _).1 ((gateB_iff _ _).1 (net_gate h0 i hi k hk)).1
    omega)
  have HW2 := Lib.hid (show ∀ i, i < ls.length → ∀ k, k < (ms.getD i []).length → 1 ≤ ((ms.getD i []).getD k ([], 0)).1.length ∧ ((ms.getD i []).getD k ([], 0)).1.length ≤ 100 from fun i hi k hk => by
    have := (planeB_iff _ _).1 ((gateB_iff _ _).1 (net_gate h1 i (by omega) k hk)).1
    omega)
  have HPV := Lib.hid (show ∀ i, i ≤ ls.length → prv ls i ≤ 4 ∧ prv ms i ≤ 4 from fun i hi => ⟨prv_le h0 i hi, prv_le h1 i (by omega)⟩)
  have HLL := Lib.hid hll
  have g4 : ((ls.length : Int) != (ms.length : Int)) = false := by simp; omega
  have HJB := Lib.hid (show netB n (jnT ls ms ls.length) = false by rw [net_jn h0 h1 hll]; exact hfit)
  have HJM := Lib.hid (jn_small h0 h1 hll)
  clear h0 h1 hll hfit
  go_enter Try.func25, Try.ntmps25
  obtain ⟨wb1, hw1⟩ : ∃ wb1 : World, wb1 = w.alloc (.cells #[.int .i64 n, .slice a ls.length c] 44) := ⟨_, rfl⟩
  obtain ⟨wb2, hw2⟩ : ∃ wb2 : World, wb2 = wb1.alloc (.cells #[.int .i64 n, .slice a' ms.length c'] 44) := ⟨_, rfl⟩
  obtain ⟨wb3, hw3⟩ : ∃ wb3 : World, wb3 = wb2.alloc (.cells #[.int .i64 0, .slice none 0 0] 44) := ⟨_, rfl⟩
  have z1 : wb1.heap.size = w.heap.size + 1 := by rw [hw1]; simp
  have z2 : wb2.heap.size = w.heap.size + 2 := by rw [hw2]; simp; omega
  have z3 : wb3.heap.size = w.heap.size + 3 := by rw [hw3]; simp; omega
  have x0_0 := (by rw [hw3]; exact cell_old _ (by rw [hw2]; exact cell_old _ (by rw [hw1]; exact cell_new _ _ _ rfl rfl : wb1.cell? ⟨w.heap.size, 0, none⟩ = some (.int .i64 n)) : wb2.cell? ⟨w.heap.size, 0, none⟩ = some (.int .i64 n)) : wb3.cell? ⟨w.heap.size, 0, none⟩ = some (.int .i64 n))
  have x0_1 := (by rw [hw3]; exact cell_old _ (by rw [hw2]; exact cell_old _ (by rw [hw1]; exact cell_new _ _ _ rfl rfl : wb1.cell? ⟨w.heap.size, 1, none⟩ = some (.slice a ls.length c)) : wb2.cell? ⟨w.heap.size, 1, none⟩ = some (.slice a ls.length c)) : wb3.cell? ⟨w.heap.size, 1, none⟩ = some (.slice a ls.length c))
  have x1_0 := (by rw [hw3]; exact cell_old _ (by rw [hw2]; exact cell_new _ _ _ z1.symm rfl : wb2.cell? ⟨w.heap.size + 1, 0, none⟩ = some (.int .i64 n)) : wb3.cell? ⟨w.heap.size + 1, 0, none⟩ = some (.int .i64 n))
  have x1_1 := (by rw [hw3]; exact cell_old _ (by rw [hw2]; exact cell_new _ _ _ z1.symm rfl : wb2.cell? ⟨w.heap.size + 1, 1, none⟩ = some (.slice a' ms.length c')) : wb3.cell? ⟨w.heap.size + 1, 1, none⟩ = some (.slice a' ms.length c'))
  have x2_0 := (by rw [hw3]; exact cell_new _ _ _ z2.symm rfl : wb3.cell? ⟨w.heap.size + 2, 0, none⟩ = some (.int .i64 0))
  have x2_1 := (by rw [hw3]; exact cell_new _ _ _ z2.symm rfl : wb3.cell? ⟨w.heap.size + 2, 1, none⟩ = some (.slice none 0 0))
  have HB0 := Lib.hid (show Below w.heap.size w wb3 by rw [hw3]; exact (show Below w.heap.size w wb2 by rw [hw2]; exact (show Below w.heap.size w wb1 by rw [hw1]; exact (Below.refl w.heap.size w).alloc (Nat.le_refl _) _).alloc (by omega) _).alloc (by omega) _)
  have s3 : w.heap.size + 3 ≤ wb3.heap.size := by omega
  have f2_0 := (by rw [hw3]; exact fro_new _ _ _ z2.symm : wb3.frozen? ⟨w.heap.size + 2, 0, none⟩ = false)
  have f2_1 := (by rw [hw3]; exact fro_new _ _ _ z2.symm : wb3.frozen? ⟨w.heap.size + 2, 1, none⟩ = false)
  have HZ3 := Lib.hid z3
  clear z1 z2 z3
  go_wp2_with fail
  rw [← hw1, ← hw2, ← hw3]
  clear hw1 hw2 hw3
  have HBwb3 := HB0
  refine (netb.impl_net a ls c n wb3 (Hhr.out.below HBwb3.out) hn Hhm.out true HN0).mono ?_
  rintro e' v1 ⟨rfl, hb⟩
  replace x0_0 := cell_below hb x0_0 (by omega)
  replace x0_1 := cell_below hb x0_1 (by omega)
  replace x1_0 := cell_below hb x1_0 (by omega)
  replace x1_1 := cell_below hb x1_1 (by omega)
  replace x2_0 := cell_below hb x2_0 (by omega)
  replace x2_1 := cell_below hb x2_1 (by omega)
  replace f2_0 := fro_below hb f2_0 (by omega)
  replace f2_1 := fro_below hb f2_1 (by omega)
  have HBv1 := Lib.hid (HBwb3.out.trans (hb.mono HBwb3.out.size))
  have sv1 := hb.size
  clear hb
  go_wp2_with fail
  refine (netb.impl_net a' ms c' n v1 (Hhq.out.below HBv1.out) hk Hhp.out true HN1).mono ?_
  rintro e' v2 ⟨rfl, hb⟩
  replace x0_0 := cell_below hb x0_0 (by omega)
  replace x0_1 := cell_below hb x0_1 (by omega)
  replace x1_0 := cell_below hb x1_0 (by omega)
  replace x1_1 := cell_below hb x1_1 (by omega)
  replace x2_0 := cell_below hb x2_0 (by omega)
  replace x2_1 := cell_below hb x2_1 (by omega)
  replace f2_0 := fro_below hb f2_0 (by omega)
  replace f2_1 := fro_below hb f2_1 (by omega)
  have HBv2 := Lib.hid (HBv1.out.trans (hb.mono HBv1.out.size))
  have sv2 := hb.size
  clear hb
  have hw3 : w.heap.size + 2 < v2.heap.size := by omega
  have hown0 := World.ownsRow_made (base := v2.heap.size) (e := 110) (size := 1) v2 #[] 0 (Nat.le_refl _) (by unfold maxLen; omega) rfl
  have hol0 : OwnLK v2.heap.size (v2.alloc (.cells #[] 110)).heap.size (v2.alloc (.cells #[] 110)) (.slice (some ⟨v2.heap.size, 0, none⟩) 0 0) [] [] [] := ⟨hown0, fun g e => (hown0.lt g e).2, LaysOf.nil _ _ _⟩
  have hb0 := below_alloc v2 (.cells #[] 110)
  have xa := cell_below hb0 x0_1 (by omega)
  clear hown0
  go_wp2_with fail
  go_loopw [6, 7, 8, 41] (fun v fa fb i wr => ∃ (k : Nat) (vs : List Value) (css : List (List Value)), k ≤ ls.length ∧ i = .int .i64 k ∧ fa = .int .i64 (prv ls k : Nat) ∧ fb = .int .i64 (prv ms k : Nat) ∧ OwnLK v2.heap.size wr.heap.size wr v (jnT ls ms k) vs css ∧ Below v2.heap.size v2 wr) (fun _ _ _ i _ => ls.length - (intOf i).toNat)
  case atStart => exact ⟨0, [], [], Nat.zero_le _, rfl, rfl, rfl, hol0, hb0⟩
  case round =>
    obtain ⟨k, vs, css, hk9, rfl, rfl, rfl, hown, hbel⟩ := hrel
    have hsz := hbel.size
    have HO := Lib.hid hown
    have HBl := Lib.hid hbel
    have HBw := Lib.hid (HBv2.out.trans (hbel.mono (by omega : w.heap.size ≤ v2.heap.size)))
    replace x0_0 := cell_below hbel x0_0 (by omega)
    replace x0_1 := cell_below hbel x0_1 (by omega)
    replace x1_0 := cell_below hbel x1_0 (by omega)
    replace x1_1 := cell_below hbel x1_1 (by omega)
    replace x2_0 := cell_below hbel x2_0 (by omega)
    replace x2_1 := cell_below hbel x2_1 (by omega)
    replace f2_0 := fro_below hbel f2_0 (by omega)
    replace f2_1 := fro_below hbel f2_1 (by omega)
    clear hol0 hb0 hown hbel xa
    by_cases hlt : k < ls.length
    · obtain ⟨bl, off, pl, cl, hab, hbl, hcl, _, hlay⟩ := (Hhr.out.below HBw.out).at hlt
      obtain ⟨bm, om, pm, cm, hab', hbm, hcm, _, hlam⟩ := (Hhq.out.below HBw.out).at (show k < ms.length by have := HLL.out; omega)
      subst hab
      subst hab'
      have hkm : (k : Int) < (ms.length : Int) := by have := HLL.out; omega
      have hkl : (k : Int) < (ls.length : Int) := by omega
      have hk0 : (0 : Int) ≤ (k : Int) := by omega
      have HTK := Lib.hid (show jnT ls ms (k + 1) = jnT ls ms k ++ [widJ 0 (prv ms k) (ls.getD k []) ++ widJ (prv ls k) 0 (ms.getD k [])] from jnT_succ ls ms k)
      have HTJ := Lib.hid (jnT_len ls ms k)
      have HPA := Lib.hid (prv_succ ls k)
      have HPB := Lib.hid (prv_succ ms k)
      have hg1 := HG1.out k hlt
      have hw1 := HW1.out k hlt
      have hw2 := HW2.out k hlt
      have hpv := HPV.out k (by omega)
      have hk6 := HL6.out
      generalize ls.getD k [] = l at *
      generalize ms.getD k [] = m at *
      generalize prv ls k = px at *
      generalize prv ms k = py at *
      have HWA := Lib.hid (fun (wa : World) (hb : Below wr.heap.size wr wa) => (show Calls Try.prog 91 #[.slice pl l.length cl, .int .i64 0, .int .i64 py] wa _ from widg.impl_wide 0 py pl l cl wa (by omega) (by omega) (hlay.below hb) (by omega) hw1))
      have HWB := Lib.hid (fun (wa : World) (hb : Below wr.heap.size wr wa) => (show Calls Try.prog 91 #[.slice pm m.length cm, .int .i64 px, .int .i64 0] wa _ from widg.impl_wide px 0 pm m cm wa (by omega) (by omega) (hlam.below hb) (by omega) hw2))
      clear hlay hlam hw1 hw2
      go_wp2_with fail
      refine (HWA.out _ (Below.refl _ _)).mono ?_
      rintro e1 wA ⟨p1, q1, cs1, rfl, hk1, hbA⟩
      have HBA := Lib.hid hbA
      have HK1 := Lib.hid hk1
      have sA := hbA.size
      clear hbA hk1
      go_wp2_with fail
      refine (HWB.out _ HBA.out).mono ?_
      rintro e2 wB ⟨p2, q2, cs2, rfl, hk2, hbB⟩
      have sB := hbB.size
      have HBB := Lib.hid (HBA.out.trans (hbB.mono sA))
      have HK1b := Lib.hid (widc.k_below HK1.out hbB)
      have HK2 := Lib.hid hk2
      clear hbB hk2 HK1
      go_wp2_with fail
      obtain ⟨L1, hL1⟩ : ∃ L1, L1 = widJ 0 py l := ⟨_, rfl⟩
      obtain ⟨L2, hL2⟩ : ∃ L2, L2 = widJ px 0 m := ⟨_, rfl⟩
      have e1 : L1.length = l.length := by rw [hL1, wid_len]
      have e2 : L2.length = m.length := by rw [hL2, wid_len]
      rw [← hL1, ← hL2] at HTK
      rw [← hL1] at HK1b
      rw [← hL2] at HK2
      clear hL1 hL2
      have c50 : (wB.alloc (.cells #[.slice p1 l.length q1, .slice p2 m.length q2] 110)).cell? ⟨wB.heap.size, 0, none⟩ = some (.slice p1 l.length q1) := cell_new _ _ _ rfl rfl
      have c51 : (wB.alloc (.cells #[.slice p1 l.length q1, .slice p2 m.length q2] 110)).cell? ⟨wB.heap.size, 1, none⟩ = some (.slice p2 m.length q2) := cell_new _ _ _ rfl rfl
      have hbC := below_alloc wB (.cells #[.slice p1 l.length q1, .slice p2 m.length q2] 110)
      have hltC := size_alloc' wB (.cells #[.slice p1 l.length q1, .slice p2 m.length q2] 110)
      have HK1c := Lib.hid (widc.k_below HK1b.out hbC)
      have HK2c := Lib.hid (widc.k_below HK2.out hbC)
      obtain ⟨B5, hB5⟩ : ∃ B5 : Nat, B5 = wB.heap.size := ⟨_, rfl⟩
      rw [← hB5] at c50 c51 ⊢
      have HBC := Lib.hid (HBB.out.trans (hbC.mono HBB.out.size))
      generalize hwC : wB.alloc (.cells #[.slice p1 l.length q1, .slice p2 m.length q2] 110) = wC at *
      clear hwC hbC HK1b HK2
      have sC := HBC.out.size
      have hcat := widc.cat2 B5 2 q1 q2 p1 p2 L1 L2 cs1 cs2 wr.heap.size wA.heap.size wB.heap.size wC (by rw [e1]; exact HK1c.out) (by rw [e2]; exact HK2c.out) (by omega) (by omega) (by omega) (by rw [e1]; exact c50) (by rw [e2]; exact c51) sA sB (by omega)
      refine hcat.mono ?_
      clear hcat
      rintro e3 w2 ⟨p3, q3, rfl, hk3, hb3⟩
      generalize L1 ++ L2 = L3 at *
      have HBX := Lib.hid (HBC.out.trans (hb3.mono sC))
      have sX := HBX.out.size
      have HK3 := Lib.hid hk3
      clear hk3 hb3 c50 c51
      have HB3 := Lib.hid (below_alloc w2 (.cells #[.slice p3 L3.length q3] 110))
      have hs3 := HB3.out.size
      have HX3 := Lib.hid (HBX.out.trans (HB3.out.mono sX))
      have hvb := fun g (e : u6.ownBlock = some g) => HO.out.1.lt g e
      have hro := ownsRow_block (w' := w2.alloc (.cells #[.slice p3 L3.length q3] 110)) HO.out.1 (fun g hg => HX3.out.block g (hvb g hg).2)
      rw [HTJ.out] at hro
      have HRO := Lib.hid hro
      have HOC := Lib.hid ((widc.k_below HK3.out HB3.out).widen (Nat.le_refl _) hs3)
      have HVB := Lib.hid hvb
      clear hro hvb
      go_wp2_with (at_builtin; refine wpList_append_own _ rfl _ _ 42 rfl v2.heap.size 110 j0 (.slice none 0 0) 1 24 Try.underlying42 hj hjz0 hjz1 hjz2 rfl (by decide) _ _ _ rfl HRO.out ⟨w2.heap.size, 0, none⟩ 1 1 [.slice p3 L3.length q3] rfl rfl (cell_one_new _ _ _) (by simp [Value.oneCell']) (by unfold maxLen; omega) (by omega) (by simp; omega) ?_; intro v' w5 hown' hgrow _)
      have HPU := Lib.hid (chk.lk_push HO.out HX3.out (by omega) HOC.out (by rw [HTJ.out]; exact hown') hgrow)
      have HB5 := Lib.hid (show Below v2.heap.size v2 w5 from (HBl.out.trans (HX3.out.mono hsz)).grown hgrow (by omega) (fun g e => (HVB.out g e).1))
      clear hown' hgrow
      go_wp2_with fail
      go_roundw
      case rel => exact ⟨k + 1, _, _, by omega, by go_num, by rw [HPA.out], by rw [HPB.out], by rw [HTK.out]; exact HPU.out, HB5.out⟩
      case measure => simp [intOf]; omega
    · obtain rfl : k = ls.length := by omega
      have hoj := HO.out
      generalize jnT ls ms ls.length = J at *
      obtain ⟨pn, qn, hvn, _, _, hJl⟩ := (show OwnL v2.heap.size wr.heap.size wr u6 J from ⟨_, _, hoj⟩).slice
      subst hvn
      have HF := Lib.hid hoj
      clear hoj HO
      go_wp2_with fail
      refine (chk.chk_no pn J qn n wr (show OwnL _ _ _ _ _ from ⟨_, _, HF.out⟩).reads (by have := HJM.out.1; omega) (fun x hx => ⟨by have := (HJM.out.2 x hx).1; omega, fun y hy => by have := (HJM.out.2 x hx).2 y hy; omega⟩) HJB.out).mono ?_
      rintro e' w4 ⟨rfl, hb⟩
      have s4 := hb.size
      have HO4 := Lib.hid ((show OwnL v2.heap.size w4.heap.size w4 (.slice pn J.length qn) J from (OwnL.below ⟨_, _, HF.out⟩ hb).mono (Nat.le_refl _) hb.size))
      replace x0_0 := cell_below hb x0_0 (by omega)
      replace x0_1 := cell_below hb x0_1 (by omega)
      replace x1_0 := cell_below hb x1_0 (by omega)
      replace x1_1 := cell_below hb x1_1 (by omega)
      replace x2_0 := cell_below hb x2_0 (by omega)
      replace x2_1 := cell_below hb x2_1 (by omega)
      replace f2_0 := fro_below hb f2_0 (by omega)
      replace f2_1 := fro_below hb f2_1 (by omega)
      have HBR := Lib.hid (HBw.out.trans (hb.mono HBw.out.size))
      clear hb
      go_wp2_with fail
      refine bodyPost_ret (v := .tuple #[.agg #[.int .i64 0, .slice none 0 0], .bool false]) (by simp [results, Try.results25, go_sem, x2_0, x2_1, f2_0, f2_1]) rfl ⟨_, rfl, ?_, ?_⟩
      · exact OwnL.nil _ _ _
      · exact (HBR.out.setCell (by simp; omega) _).setCell (by simp; omega) _
end Go.Proofs.Ytkbcofgigfnfaab.joini
