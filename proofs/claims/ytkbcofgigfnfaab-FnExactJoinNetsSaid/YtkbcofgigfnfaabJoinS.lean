/- The model's two nets side by side. -/
import Derived.Test.YtkbcofgigfnfaabOwnNet
import Derived.Test.YtkbcofgigfnfaabWidS
import Derived.Test.YtkbcofgigfnfaabWidC
import Derived.Test.YtkbcofgigfnfaabStepA
import Derived.BigQuiet
namespace Go.Proofs.Ytkbcofgigfnfaab.joins
open Go.RowKit own pp nums planes netp netb ownnet stepa stmp widp
set_option linter.unusedVariables false
set_option linter.unusedSimpArgs false

theorem block_lt_of_cell {w : World} {a : Addr} {x : Value} (h : w.cell? a = some x) : a.block < w.heap.size := World.block_lt_of_cell? w a h
theorem cell_keep {W W' : World} (h : Below W.heap.size W W') {b o : Nat} {x : Value} (hx : W.cell? ⟨b, o, none⟩ = some x) : W'.cell? ⟨b, o, none⟩ = some x :=
  cell_below h hx (block_lt_of_cell (a := ⟨b, o, none⟩) hx)
theorem fro_keep {W W' : World} (h : Below W.heap.size W W') {b o o' : Nat} {x : Value} (hx : W.cell? ⟨b, o', none⟩ = some x) (hf : W.frozen? ⟨b, o, none⟩ = false) : W'.frozen? ⟨b, o, none⟩ = false :=
  fro_below h hf (block_lt_of_cell (a := ⟨b, o', none⟩) hx)
theorem cell_grow {W W' : World} {row : Option Nat} (h : W.grownBy W' row) {b o : Nat} {x : Value} (hx : W.cell? ⟨b, o, none⟩ = some x) (hne : ∀ g, row = some g → b ≠ g) : W'.cell? ⟨b, o, none⟩ = some x :=
  (World.cell?_of_block (h.block b (block_lt_of_cell (a := ⟨b, o, none⟩) hx) (fun e => hne b e.symm rfl))).trans hx
theorem fro_grow {W W' : World} {row : Option Nat} (h : W.grownBy W' row) {b o o' : Nat} {x : Value} (hx : W.cell? ⟨b, o', none⟩ = some x) (hf : W.frozen? ⟨b, o, none⟩ = false) (hne : ∀ g, row = some g → b ≠ g) : W'.frozen? ⟨b, o, none⟩ = false :=
  (World.frozen?_of_block (a := ⟨b, o, none⟩) (h.block b (block_lt_of_cell (a := ⟨b, o', none⟩) hx) (fun e => hne b e.symm rfl))).trans hf
theorem cell_set2 {W : World} {b o b' o' : Nat} {x : Value} (hx : W.cell? ⟨b, o, none⟩ = some x) (hne : b ≠ b') (u : Value) : (W.setCell ⟨b', o', none⟩ u).cell? ⟨b, o, none⟩ = some x :=
  (World.cell?_of_block (Below.heap_setCell _ _ _ _ (by show b ≠ b'; exact hne))).trans hx
set_option maxRecDepth 100000 in
set_option maxHeartbeats 1600000 in
theorem spec_jn_no (a : Option Addr) (ls : List (List (List Int × Int))) (c : Nat) (n : Int) (a' : Option Addr) (ms : List (List (List Int × Int))) (c' : Nat) (n' : Int) (w : World) (hr : ReadsL w a ls) (hq : ReadsL w a' ms) (hn : ls.length ≤ 1048576) (hk : ms.length ≤ 1048576) (hm : ∀ x ∈ ls, x.length ≤ 1048576 ∧ ∀ y ∈ x, y.1.length ≤ 1048576) (hp : ∀ x ∈ ms, x.length ≤ 1048576 ∧ ∀ y ∈ x, y.1.length ≤ 1048576) (h : netB n ls = false ∨ netB n' ms = false ∨ ¬ n = n' ∨ ¬ ls.length = ms.length) :
    Calls Try.prog 23 #[.agg #[.int .i64 n, .slice a ls.length c], .agg #[.int .i64 n', .slice a' ms.length c']] w (RetTB [] 0 false w) := by
  have Hhr := Lib.hid hr
  have Hhq := Lib.hid hq
  have Hhm := Lib.hid hm
  have Hhp := Lib.hid hp
  clear hr hq hm hp
  cases h0 : netB n ls
  · have HN0 := Lib.hid h0
    clear h h0
    go_enter Try.func23, Try.ntmps23
    obtain ⟨wb1, hw1⟩ : ∃ wb1 : World, wb1 = w.alloc (.cells #[.int .i64 n, .slice a ls.length c] 44) := ⟨_, rfl⟩
    obtain ⟨wb2, hw2⟩ : ∃ wb2 : World, wb2 = wb1.alloc (.cells #[.int .i64 n', .slice a' ms.length c'] 44) := ⟨_, rfl⟩
    obtain ⟨wb3, hw3⟩ : ∃ wb3 : World, wb3 = wb2.alloc (.cells #[.int .i64 0, .slice none 0 0] 44) := ⟨_, rfl⟩
    have z1 : wb1.heap.size = w.heap.size + 1 := by rw [hw1]; simp
    have z2 : wb2.heap.size = w.heap.size + 2 := by rw [hw2]; simp; omega
    have z3 : wb3.heap.size = w.heap.size + 3 := by rw [hw3]; simp; omega
    have x0_0 := (by rw [hw3]; exact cell_old _ (by rw [hw2]; exact cell_old _ (by rw [hw1]; exact cell_new _ _ _ rfl rfl : wb1.cell? ⟨w.heap.size, 0, none⟩ = some (.int .i64 n)) : wb2.cell? ⟨w.heap.size, 0, none⟩ = some (.int .i64 n)) : wb3.cell? ⟨w.heap.size, 0, none⟩ = some (.int .i64 n))
    have x0_1 := (by rw [hw3]; exact cell_old _ (by rw [hw2]; exact cell_old _ (by rw [hw1]; exact cell_new _ _ _ rfl rfl : wb1.cell? ⟨w.heap.size, 1, none⟩ = some (.slice a ls.length c)) : wb2.cell? ⟨w.heap.size, 1, none⟩ = some (.slice a ls.length c)) : wb3.cell? ⟨w.heap.size, 1, none⟩ = some (.slice a ls.length c))
    have x1_0 := (by rw [hw3]; exact cell_old _ (by rw [hw2]; exact cell_new _ _ _ z1.symm rfl : wb2.cell? ⟨w.heap.size + 1, 0, none⟩ = some (.int .i64 n')) : wb3.cell? ⟨w.heap.size + 1, 0, none⟩ = some (.int .i64 n'))
    have x1_1 := (by rw [hw3]; exact cell_old _ (by rw [hw2]; exact cell_new _ _ _ z1.symm rfl : wb2.cell? ⟨w.heap.size + 1, 1, none⟩ = some (.slice a' ms.length c')) : wb3.cell? ⟨w.heap.size + 1, 1, none⟩ = some (.slice a' ms.length c'))
    have x2_0 := (by rw [hw3]; exact cell_new _ _ _ z2.symm rfl : wb3.cell? ⟨w.heap.size + 2, 0, none⟩ = some (.int .i64 0))
    have x2_1 := (by rw [hw3]; exact cell_new _ _ _ z2.symm rfl : wb3.cell? ⟨w.heap.size + 2, 1, none⟩ = some (.slice none 0 0))
    have HB0 := Lib.hid (show Below w.heap.size w wb3 by rw [hw3]; exact (show Below w.heap.size w wb2 by rw [hw2]; exact (show Below w.heap.size w wb1 by rw [hw1]; exact (Below.refl w.heap.size w).alloc (Nat.le_refl _) _).alloc (by omega) _).alloc (by omega) _)
    have s3 : w.heap.size + 3 ≤ wb3.heap.size := by omega
    have f2_0 := (by rw [hw3]; exact fro_new _ _ _ z2.symm : wb3.frozen? ⟨w.heap.size + 2, 0, none⟩ = false)
    have f2_1 := (by rw [hw3]; exact fro_new _ _ _ z2.symm : wb3.frozen? ⟨w.heap.size + 2, 1, none⟩ = false)
    have HZ3 := Lib.hid z3
    clear z1 z2 z3
    go_wp2_with fail
    rw [← hw1, ← hw2, ← hw3]
    clear hw1 hw2 hw3
    have HBwb3 := HB0
    refine (netb.spec_good a ls c n wb3 (Hhr.out.below HBwb3.out) hn Hhm.out false HN0).mono ?_
    rintro e' v1 ⟨rfl, hb⟩
    replace x0_0 := cell_below hb x0_0 (by omega)
    replace x0_1 := cell_below hb x0_1 (by omega)
    replace x1_0 := cell_below hb x1_0 (by omega)
    replace x1_1 := cell_below hb x1_1 (by omega)
    replace x2_0 := cell_below hb x2_0 (by omega)
    replace x2_1 := cell_below hb x2_1 (by omega)
    replace f2_0 := fro_below hb f2_0 (by omega)
    replace f2_1 := fro_below hb f2_1 (by omega)
    have HBv1 := Lib.hid (HBwb3.out.trans (hb.mono HBwb3.out.size))
    have sv1 := hb.size
    clear hb
    go_wp2_with fail
    refine bodyPost_ret (v := .tuple #[.agg #[.int .i64 0, .slice none 0 0], .bool false]) (by simp [results, Try.results23, go_sem, x2_0, x2_1, f2_0, f2_1]) rfl ⟨_, rfl, ?_, ?_⟩
    · exact OwnL.nil _ _ _
    · exact ((HBv1.out.setCell (by simp; omega) _).setCell (by simp; omega) _)
  have HN0 := Lib.hid h0
  cases h1 : netB n' ms
  · have HN1 := Lib.hid h1
    clear h h0 h1
    go_enter Try.func23, Try.ntmps23
    obtain ⟨wb1, hw1⟩ : ∃ wb1 : World, wb1 = w.alloc (.cells #[.int .i64 n, .slice a ls.length c] 44) := ⟨_, rfl⟩
    obtain ⟨wb2, hw2⟩ : ∃ wb2 : World, wb2 = wb1.alloc (.cells #[.int .i64 n', .slice a' ms.length c'] 44) := ⟨_, rfl⟩
    obtain ⟨wb3, hw3⟩ : ∃ wb3 : World, wb3 = wb2.alloc (.cells #[.int .i64 0, .slice none 0 0] 44) := ⟨_, rfl⟩
    have z1 : wb1.heap.size = w.heap.size + 1 := by rw [hw1]; simp
    have z2 : wb2.heap.size = w.heap.size + 2 := by rw [hw2]; simp; omega
    have z3 : wb3.heap.size = w.heap.size + 3 := by rw [hw3]; simp; omega
    have x0_0 := (by rw [hw3]; exact cell_old _ (by rw [hw2]; exact cell_old _ (by rw [hw1]; exact cell_new _ _ _ rfl rfl : wb1.cell? ⟨w.heap.size, 0, none⟩ = some (.int .i64 n)) : wb2.cell? ⟨w.heap.size, 0, none⟩ = some (.int .i64 n)) : wb3.cell? ⟨w.heap.size, 0, none⟩ = some (.int .i64 n))
    have x0_1 := (by rw [hw3]; exact cell_old _ (by rw [hw2]; exact cell_old _ (by rw [hw1]; exact cell_new _ _ _ rfl rfl : wb1.cell? ⟨w.heap.size, 1, none⟩ = some (.slice a ls.length c)) : wb2.cell? ⟨w.heap.size, 1, none⟩ = some (.slice a ls.length c)) : wb3.cell? ⟨w.heap.size, 1, none⟩ = some (.slice a ls.length c))
    have x1_0 := (by rw [hw3]; exact cell_old _ (by rw [hw2]; exact cell_new _ _ _ z1.symm rfl : wb2.cell? ⟨w.heap.size + 1, 0, none⟩ = some (.int .i64 n')) : wb3.cell? ⟨w.heap.size + 1, 0, none⟩ = some (.int .i64 n'))
    have x1_1 := (by rw [hw3]; exact cell_old _ (by rw [hw2]; exact cell_new _ _ _ z1.symm rfl : wb2.cell? ⟨w.heap.size + 1, 1, none⟩ = some (.slice a' ms.length c')) : wb3.cell? ⟨w.heap.size + 1, 1, none⟩ = some (.slice a' ms.length c'))
    have x2_0 := (by rw [hw3]; exact cell_new _ _ _ z2.symm rfl : wb3.cell? ⟨w.heap.size + 2, 0, none⟩ = some (.int .i64 0))
    have x2_1 := (by rw [hw3]; exact cell_new _ _ _ z2.symm rfl : wb3.cell? ⟨w.heap.size + 2, 1, none⟩ = some (.slice none 0 0))
    have HB0 := Lib.hid (show Below w.heap.size w wb3 by rw [hw3]; exact (show Below w.heap.size w wb2 by rw [hw2]; exact (show Below w.heap.size w wb1 by rw [hw1]; exact (Below.refl w.heap.size w).alloc (Nat.le_refl _) _).alloc (by omega) _).alloc (by omega) _)
    have s3 : w.heap.size + 3 ≤ wb3.heap.size := by omega
    have f2_0 := (by rw [hw3]; exact fro_new _ _ _ z2.symm : wb3.frozen? ⟨w.heap.size + 2, 0, none⟩ = false)
    have f2_1 := (by rw [hw3]; exact fro_new _ _ _ z2.symm : wb3.frozen? ⟨w.heap.size + 2, 1, none⟩ = false)
    have HZ3 := Lib.hid z3
    clear z1 z2 z3
    go_wp2_with fail
    rw [← hw1, ← hw2, ← hw3]
    clear hw1 hw2 hw3
    have HBwb3 := HB0
    refine (netb.spec_good a ls c n wb3 (Hhr.out.below HBwb3.out) hn Hhm.out true HN0).mono ?_
    rintro e' v1 ⟨rfl, hb⟩
    replace x0_0 := cell_below hb x0_0 (by omega)
    replace x0_1 := cell_below hb x0_1 (by omega)
    replace x1_0 := cell_below hb x1_0 (by omega)
    replace x1_1 := cell_below hb x1_1 (by omega)
    replace x2_0 := cell_below hb x2_0 (by omega)
    replace x2_1 := cell_below hb x2_1 (by omega)
    replace f2_0 := fro_below hb f2_0 (by omega)
    replace f2_1 := fro_below hb f2_1 (by omega)
    have HBv1 := Lib.hid (HBwb3.out.trans (hb.mono HBwb3.out.size))
    have sv1 := hb.size
    clear hb
    go_wp2_with fail
    refine (netb.spec_good a' ms c' n' v1 (Hhq.out.below HBv1.out) hk Hhp.out false HN1).mono ?_
    rintro e' v2 ⟨rfl, hb⟩
    replace x0_0 := cell_below hb x0_0 (by omega)
    replace x0_1 := cell_below hb x0_1 (by omega)
    replace x1_0 := cell_below hb x1_0 (by omega)
    replace x1_1 := cell_below hb x1_1 (by omega)
    replace x2_0 := cell_below hb x2_0 (by omega)
    replace x2_1 := cell_below hb x2_1 (by omega)
    replace f2_0 := fro_below hb f2_0 (by omega)
    replace f2_1 := fro_below hb f2_1 (by omega)
    have HBv2 := Lib.hid (HBv1.out.trans (hb.mono HBv1.out.size))
    have sv2 := hb.size
    clear hb
    go_wp2_with fail
    refine bodyPost_ret (v := .tuple #[.agg #[.int .i64 0, .slice none 0 0], .bool false]) (by simp [results, Try.results23, go_sem, x2_0, x2_1, f2_0, f2_1]) rfl ⟨_, rfl, ?_, ?_⟩
    · exact OwnL.nil _ _ _
    · exact ((HBv2.out.setCell (by simp; omega) _).setCell (by simp; omega) _)
  have HN1 := Lib.hid h1
  by_cases hnn : n = n'
  · have hll : ¬ ls.length = ms.length := by
      rcases h with h | h | h | h
      · rw [h0] at h; cases h
      · rw [h1] at h; cases h
      · exact absurd hnn h
      · exact h
    have g3 : (n != n') = false := by simpa using hnn
    have g4 : ((ls.length : Int) != (ms.length : Int)) = true := by simp; omega
    have g5 : ¬ (ls.length : Int) = (ms.length : Int) := by omega
    have hlz : (ls.length : Int) ≠ (ms.length : Int) := by omega
    clear h h0 h1 hll g3
    subst hnn
    go_enter Try.func23, Try.ntmps23
    obtain ⟨wb1, hw1⟩ : ∃ wb1 : World, wb1 = w.alloc (.cells #[.int .i64 n, .slice a ls.length c] 44) := ⟨_, rfl⟩
    obtain ⟨wb2, hw2⟩ : ∃ wb2 : World, wb2 = wb1.alloc (.cells #[.int .i64 n, .slice a' ms.length c'] 44) := ⟨_, rfl⟩
    obtain ⟨wb3, hw3⟩ : ∃ wb3 : World, wb3 = wb2.alloc (.cells #[.int .i64 0, .slice none 0 0] 44) := ⟨_, rfl⟩
    have z1 : wb1.heap.size = w.heap.size + 1 := by rw [hw1]; simp
    have z2 : wb2.heap.size = w.heap.size + 2 := by rw [hw2]; simp; omega
    have z3 : wb3.heap.size = w.heap.size + 3 := by rw [hw3]; simp; omega
    have x0_0 := (by rw [hw3]; exact cell_old _ (by rw [hw2]; exact cell_old _ (by rw [hw1]; exact cell_new _ _ _ rfl rfl : wb1.cell? ⟨w.heap.size, 0, none⟩ = some (.int .i64 n)) : wb2.cell? ⟨w.heap.size, 0, none⟩ = some (.int .i64 n)) : wb3.cell? ⟨w.heap.size, 0, none⟩ = some (.int .i64 n))
    have x0_1 := (by rw [hw3]; exact cell_old _ (by rw [hw2]; exact cell_old _ (by rw [hw1]; exact cell_new _ _ _ rfl rfl : wb1.cell? ⟨w.heap.size, 1, none⟩ = some (.slice a ls.length c)) : wb2.cell? ⟨w.heap.size, 1, none⟩ = some (.slice a ls.length c)) : wb3.cell? ⟨w.heap.size, 1, none⟩ = some (.slice a ls.length c))
    have x1_0 := (by rw [hw3]; exact cell_old _ (by rw [hw2]; exact cell_new _ _ _ z1.symm rfl : wb2.cell? ⟨w.heap.size + 1, 0, none⟩ = some (.int .i64 n)) : wb3.cell? ⟨w.heap.size + 1, 0, none⟩ = some (.int .i64 n))
    have x1_1 := (by rw [hw3]; exact cell_old _ (by rw [hw2]; exact cell_new _ _ _ z1.symm rfl : wb2.cell? ⟨w.heap.size + 1, 1, none⟩ = some (.slice a' ms.length c')) : wb3.cell? ⟨w.heap.size + 1, 1, none⟩ = some (.slice a' ms.length c'))
    have x2_0 := (by rw [hw3]; exact cell_new _ _ _ z2.symm rfl : wb3.cell? ⟨w.heap.size + 2, 0, none⟩ = some (.int .i64 0))
    have x2_1 := (by rw [hw3]; exact cell_new _ _ _ z2.symm rfl : wb3.cell? ⟨w.heap.size + 2, 1, none⟩ = some (.slice none 0 0))
    have HB0 := Lib.hid (show Below w.heap.size w wb3 by rw [hw3]; exact (show Below w.heap.size w wb2 by rw [hw2]; exact (show Below w.heap.size w wb1 by rw [hw1]; exact (Below.refl w.heap.size w).alloc (Nat.le_refl _) _).alloc (by omega) _).alloc (by omega) _)
    have s3 : w.heap.size + 3 ≤ wb3.heap.size := by omega
    have f2_0 := (by rw [hw3]; exact fro_new _ _ _ z2.symm : wb3.frozen? ⟨w.heap.size + 2, 0, none⟩ = false)
    have f2_1 := (by rw [hw3]; exact fro_new _ _ _ z2.symm : wb3.frozen? ⟨w.heap.size + 2, 1, none⟩ = false)
    have HZ3 := Lib.hid z3
    clear z1 z2 z3
    go_wp2_with fail
    rw [← hw1, ← hw2, ← hw3]
    clear hw1 hw2 hw3
    have HBwb3 := HB0
    refine (netb.spec_good a ls c n wb3 (Hhr.out.below HBwb3.out) hn Hhm.out true HN0).mono ?_
    rintro e' v1 ⟨rfl, hb⟩
    replace x0_0 := cell_below hb x0_0 (by omega)
    replace x0_1 := cell_below hb x0_1 (by omega)
    replace x1_0 := cell_below hb x1_0 (by omega)
    replace x1_1 := cell_below hb x1_1 (by omega)
    replace x2_0 := cell_below hb x2_0 (by omega)
    replace x2_1 := cell_below hb x2_1 (by omega)
    replace f2_0 := fro_below hb f2_0 (by omega)
    replace f2_1 := fro_below hb f2_1 (by omega)
    have HBv1 := Lib.hid (HBwb3.out.trans (hb.mono HBwb3.out.size))
    have sv1 := hb.size
    clear hb
    go_wp2_with fail
    refine (netb.spec_good a' ms c' n v1 (Hhq.out.below HBv1.out) hk Hhp.out true HN1).mono ?_
    rintro e' v2 ⟨rfl, hb⟩
    replace x0_0 := cell_below hb x0_0 (by omega)
    replace x0_1 := cell_below hb x0_1 (by omega)
    replace x1_0 := cell_below hb x1_0 (by omega)
    replace x1_1 := cell_below hb x1_1 (by omega)
    replace x2_0 := cell_below hb x2_0 (by omega)
    replace x2_1 := cell_below hb x2_1 (by omega)
    replace f2_0 := fro_below hb f2_0 (by omega)
    replace f2_1 := fro_below hb f2_1 (by omega)
    have HBv2 := Lib.hid (HBv1.out.trans (hb.mono HBv1.out.size))
    have sv2 := hb.size
    clear hb
    go_wp2_with fail
    refine bodyPost_ret (v := .tuple #[.agg #[.int .i64 0, .slice none 0 0], .bool false]) (by simp [results, Try.results23, go_sem, x2_0, x2_1, f2_0, f2_1]) rfl ⟨_, rfl, ?_, ?_⟩
    · exact OwnL.nil _ _ _
    · exact ((HBv2.out.setCell (by simp; omega) _).setCell (by simp; omega) _)
  · have g3 : (n != n') = true := by simpa using hnn
    clear h h0 h1
    go_enter Try.func23, Try.ntmps23
    obtain ⟨wb1, hw1⟩ : ∃ wb1 : World, wb1 = w.alloc (.cells #[.int .i64 n, .slice a ls.length c] 44) := ⟨_, rfl⟩
    obtain ⟨wb2, hw2⟩ : ∃ wb2 : World, wb2 = wb1.alloc (.cells #[.int .i64 n', .slice a' ms.length c'] 44) := ⟨_, rfl⟩
    obtain ⟨wb3, hw3⟩ : ∃ wb3 : World, wb3 = wb2.alloc (.cells #[.int .i64 0, .slice none 0 0] 44) := ⟨_, rfl⟩
    have z1 : wb1.heap.size = w.heap.size + 1 := by rw [hw1]; simp
    have z2 : wb2.heap.size = w.heap.size + 2 := by rw [hw2]; simp; omega
    have z3 : wb3.heap.size = w.heap.size + 3 := by rw [hw3]; simp; omega
    have x0_0 := (by rw [hw3]; exact cell_old _ (by rw [hw2]; exact cell_old _ (by rw [hw1]; exact cell_new _ _ _ rfl rfl : wb1.cell? ⟨w.heap.size, 0, none⟩ = some (.int .i64 n)) : wb2.cell? ⟨w.heap.size, 0, none⟩ = some (.int .i64 n)) : wb3.cell? ⟨w.heap.size, 0, none⟩ = some (.int .i64 n))
    have x0_1 := (by rw [hw3]; exact cell_old _ (by rw [hw2]; exact cell_old _ (by rw [hw1]; exact cell_new _ _ _ rfl rfl : wb1.cell? ⟨w.heap.size, 1, none⟩ = some (.slice a ls.length c)) : wb2.cell? ⟨w.heap.size, 1, none⟩ = some (.slice a ls.length c)) : wb3.cell? ⟨w.heap.size, 1, none⟩ = some (.slice a ls.length c))
    have x1_0 := (by rw [hw3]; exact cell_old _ (by rw [hw2]; exact cell_new _ _ _ z1.symm rfl : wb2.cell? ⟨w.heap.size + 1, 0, none⟩ = some (.int .i64 n')) : wb3.cell? ⟨w.heap.size + 1, 0, none⟩ = some (.int .i64 n'))
    have x1_1 := (by rw [hw3]; exact cell_old _ (by rw [hw2]; exact cell_new _ _ _ z1.symm rfl : wb2.cell? ⟨w.heap.size + 1, 1, none⟩ = some (.slice a' ms.length c')) : wb3.cell? ⟨w.heap.size + 1, 1, none⟩ = some (.slice a' ms.length c'))
    have x2_0 := (by rw [hw3]; exact cell_new _ _ _ z2.symm rfl : wb3.cell? ⟨w.heap.size + 2, 0, none⟩ = some (.int .i64 0))
    have x2_1 := (by rw [hw3]; exact cell_new _ _ _ z2.symm rfl : wb3.cell? ⟨w.heap.size + 2, 1, none⟩ = some (.slice none 0 0))
    have HB0 := Lib.hid (show Below w.heap.size w wb3 by rw [hw3]; exact (show Below w.heap.size w wb2 by rw [hw2]; exact (show Below w.heap.size w wb1 by rw [hw1]; exact (Below.refl w.heap.size w).alloc (Nat.le_refl _) _).alloc (by omega) _).alloc (by omega) _)
    have s3 : w.heap.size + 3 ≤ wb3.heap.size := by omega
    have f2_0 := (by rw [hw3]; exact fro_new _ _ _ z2.symm : wb3.frozen? ⟨w.heap.size + 2, 0, none⟩ = false)
    have f2_1 := (by rw [hw3]; exact fro_new _ _ _ z2.symm : wb3.frozen? ⟨w.heap.size + 2, 1, none⟩ = false)
    have HZ3 := Lib.hid z3
    clear z1 z2 z3
    go_wp2_with fail
    rw [← hw1, ← hw2, ← hw3]
    clear hw1 hw2 hw3
    have HBwb3 := HB0
    refine (netb.spec_good a ls c n wb3 (Hhr.out.below HBwb3.out) hn Hhm.out true HN0).mono ?_
    rintro e' v1 ⟨rfl, hb⟩
    replace x0_0 := cell_below hb x0_0 (by omega)
    replace x0_1 := cell_below hb x0_1 (by omega)
    replace x1_0 := cell_below hb x1_0 (by omega)
    replace x1_1 := cell_below hb x1_1 (by omega)
    replace x2_0 := cell_below hb x2_0 (by omega)
    replace x2_1 := cell_below hb x2_1 (by omega)
    replace f2_0 := fro_below hb f2_0 (by omega)
    replace f2_1 := fro_below hb f2_1 (by omega)
    have HBv1 := Lib.hid (HBwb3.out.trans (hb.mono HBwb3.out.size))
    have sv1 := hb.size
    clear hb
    go_wp2_with fail
    refine (netb.spec_good a' ms c' n' v1 (Hhq.out.below HBv1.out) hk Hhp.out true HN1).mono ?_
    rintro e' v2 ⟨rfl, hb⟩
    replace x0_0 := cell_below hb x0_0 (by omega)
    replace x0_1 := cell_below hb x0_1 (by omega)
    replace x1_0 := cell_below hb x1_0 (by omega)
    replace x1_1 := cell_below hb x1_1 (by omega)
    replace x2_0 := cell_below hb x2_0 (by omega)
    replace x2_1 := cell_below hb x2_1 (by omega)
    replace f2_0 := fro_below hb f2_0 (by omega)
    replace f2_1 := fro_below hb f2_1 (by omega)
    have HBv2 := Lib.hid (HBv1.out.trans (hb.mono HBv1.out.size))
    have sv2 := hb.size
    clear hb
    go_wp2_with fail
    refine bodyPost_ret (v := .tuple #[.agg #[.int .i64 0, .slice none 0 0], .bool false]) (by simp [results, Try.results23, go_sem, x2_0, x2_1, f2_0, f2_1]) rfl ⟨_, rfl, ?_, ?_⟩
    · exact OwnL.nil _ _ _
    · exact ((HBv2.out.setCell (by simp; omega) _).setCell (by simp; omega) _)
set_option maxRecDepth 100000 in
set_option maxHeartbeats 16000000 in
theorem spec_jn_yes (a : Option Addr) (ls : List (List (List Int × Int))) (c : Nat) (n : Int) (a' : Option Addr) (ms : List (List (List Int × Int))) (c' : Nat) (n' : Int) (w : World) (hr : ReadsL w a ls) (hq : ReadsL w a' ms) (hn : ls.length ≤ 1048576) (hk : ms.length ≤ 1048576) (hm : ∀ x ∈ ls, x.length ≤ 1048576 ∧ ∀ y ∈ x, y.1.length ≤ 1048576) (hp : ∀ x ∈ ms, x.length ≤ 1048576 ∧ ∀ y ∈ x, y.1.length ≤ 1048576) (h : netB n ls = true ∧ netB n' ms = true ∧ n = n' ∧ ls.length = ms.length ∧ fitJ ls ms = true) :
    Calls Try.prog 23 #[.agg #[.int .i64 n, .slice a ls.length c], .agg #[.int .i64 n', .slice a' ms.length c']] w (RetTB (jnT ls ms ls.length) n true w) := by
  obtain ⟨i0, hi, hz0, hz1, hz2⟩ := info_parts infoP
  obtain ⟨j0, hj, hjz0, hjz1, hjz2⟩ := info_parts infoJ
  have Hhr := Lib.hid hr
  have Hhq := Lib.hid hq
  have Hhm := Lib.hid hm
  have Hhp := Lib.hid hp
  clear hr hq hm hp
  obtain ⟨h0, h1, hnn, hll, hfit⟩ := h
  subst hnn
  have HN0 := Lib.hid h0
  have HN1 := Lib.hid h1
  have HL6 := Lib.hid (show 1 ≤ ls.length ∧ ls.length ≤ 6 from net_len h0)
  have HG1 := Lib.hid (show ∀ i, i < ls.length → (1 ≤ (ls.getD i []).length ∧ (ls.getD i []).length ≤ 4) ∧ (1 ≤ (ms.getD i []).length ∧ (ms.getD i []).length ≤ 4) from fun i hi => ⟨net_lay h0 i hi, net_lay h1 i (by omega)⟩)
  have HW1 := Lib.hid (show ∀ i, i < ls.length → ∀ k, k < (ls.getD i []).length → 1 ≤ ((ls.getD i []).getD k ([], 0)).1.length ∧ ((ls.getD i []).getD k ([], 0)).1.length ≤ 100 from fun i hi k hk => by
    have := (planeB_iff _ _).1 ((gateB_iff _ _).1 (net_gate h0 i hi k hk)).1
    omega)
  have HW2 := Lib.hid (show ∀ i, i < ls.length → ∀ k, k < (ms.getD i []).length → 1 ≤ ((ms.getD i []).getD k ([], 0)).1.length ∧ ((ms.getD i []).getD k ([], 0)).1.length ≤ 100 from fun i hi k hk => by
    have := (planeB_iff _ _).1 ((gateB_iff _ _).1 (net_gate h1 i (by omega) k hk)).1
    omega)
  have HPV := Lib.hid (show ∀ i, i ≤ ls.length → prv ls i ≤ 4 ∧ prv ms i ≤ 4 from fun i hi => ⟨prv_le h0 i hi, prv_le h1 i (by omega)⟩)
  have HLL := Lib.hid hll
  have g4 : ((ls.length : Int) != (ms.length : Int)) = false := by simp; omega
  have HFI := Lib.hid ((fitJ_iff _ _).1 hfit)
  clear h0 h1 hll hfit
  go_enter Try.func23, Try.ntmps23
  obtain ⟨wb1, hw1⟩ : ∃ wb1 : World, wb1 = w.alloc (.cells #[.int .i64 n, .slice a ls.length c] 44) := ⟨_, rfl⟩
  obtain ⟨wb2, hw2⟩ : ∃ wb2 : World, wb2 = wb1.alloc (.cells #[.int .i64 n, .slice a' ms.length c'] 44) := ⟨_, rfl⟩
  obtain ⟨wb3, hw3⟩ : ∃ wb3 : World, wb3 = wb2.alloc (.cells #[.int .i64 0, .slice none 0 0] 44) := ⟨_, rfl⟩
  have z1 : wb1.heap.size = w.heap.size + 1 := by rw [hw1]; simp
  have z2 : wb2.heap.size = w.heap.size + 2 := by rw [hw2]; simp; omega
  have z3 : wb3.heap.size = w.heap.size + 3 := by rw [hw3]; simp; omega
  have x0_0 := (by rw [hw3]; exact cell_old _ (by rw [hw2]; exact cell_old _ (by rw [hw1]; exact cell_new _ _ _ rfl rfl : wb1.cell? ⟨w.heap.size, 0, none⟩ = some (.int .i64 n)) : wb2.cell? ⟨w.heap.size, 0, none⟩ = some (.int .i64 n)) : wb3.cell? ⟨w.heap.size, 0, none⟩ = some (.int .i64 n))
  have x0_1 := (by rw [hw3]; exact cell_old _ (by rw [hw2]; exact cell_old _ (by rw [hw1]; exact cell_new _ _ _ rfl rfl : wb1.cell? ⟨w.heap.size, 1, none⟩ = some (.slice a ls.length c)) : wb2.cell? ⟨w.heap.size, 1, none⟩ = some (.slice a ls.length c)) : wb3.cell? ⟨w.heap.size, 1, none⟩ = some (.slice a ls.length c))
  have x1_0 := (by rw [hw3]; exact cell_old _ (by rw [hw2]; exact cell_new _ _ _ z1.symm rfl : wb2.cell? ⟨w.heap.size + 1, 0, none⟩ = some (.int .i64 n)) : wb3.cell? ⟨w.heap.size + 1, 0, none⟩ = some (.int .i64 n))
  have x1_1 := (by rw [hw3]; exact cell_old _ (by rw [hw2]; exact cell_new _ _ _ z1.symm rfl : wb2.cell? ⟨w.heap.size + 1, 1, none⟩ = some (.slice a' ms.length c')) : wb3.cell? ⟨w.heap.size + 1, 1, none⟩ = some (.slice a' ms.length c'))
  have x2_0 := (by rw [hw3]; exact cell_new _ _ _ z2.symm rfl : wb3.cell? ⟨w.heap.size + 2, 0, none⟩ = some (.int .i64 0))
  have x2_1 := (by rw [hw3]; exact cell_new _ _ _ z2.symm rfl : wb3.cell? ⟨w.heap.size + 2, 1, none⟩ = some (.slice none 0 0))
  have HB0 := Lib.hid (show Below w.heap.size w wb3 by rw [hw3]; exact (show Below w.heap.size w wb2 by rw [hw2]; exact (show Below w.heap.size w wb1 by rw [hw1]; exact (Below.refl w.heap.size w).alloc (Nat.le_refl _) _).alloc (by omega) _).alloc (by omega) _)
  have s3 : w.heap.size + 3 ≤ wb3.heap.size := by omega
  have f2_0 := (by rw [hw3]; exact fro_new _ _ _ z2.symm : wb3.frozen? ⟨w.heap.size + 2, 0, none⟩ = false)
  have f2_1 := (by rw [hw3]; exact fro_new _ _ _ z2.symm : wb3.frozen? ⟨w.heap.size + 2, 1, none⟩ = false)
  have HZ3 := Lib.hid z3
  clear z1 z2 z3
  go_wp2_with fail
  rw [← hw1, ← hw2, ← hw3]
  clear hw1 hw2 hw3
  have HBwb3 := HB0
  refine (netb.spec_good a ls c n wb3 (Hhr.out.below HBwb3.out) hn Hhm.out true HN0).mono ?_
  rintro e' v1 ⟨rfl, hb⟩
  replace x0_0 := cell_below hb x0_0 (by omega)
  replace x0_1 := cell_below hb x0_1 (by omega)
  replace x1_0 := cell_below hb x1_0 (by omega)
  replace x1_1 := cell_below hb x1_1 (by omega)
  replace x2_0 := cell_below hb x2_0 (by omega)
  replace x2_1 := cell_below hb x2_1 (by omega)
  replace f2_0 := fro_below hb f2_0 (by omega)
  replace f2_1 := fro_below hb f2_1 (by omega)
  have HBv1 := Lib.hid (HBwb3.out.trans (hb.mono HBwb3.out.size))
  have sv1 := hb.size
  clear hb
  go_wp2_with fail
  refine (netb.spec_good a' ms c' n v1 (Hhq.out.below HBv1.out) hk Hhp.out true HN1).mono ?_
  rintro e' v2 ⟨rfl, hb⟩
  replace x0_0 := cell_below hb x0_0 (by omega)
  replace x0_1 := cell_below hb x0_1 (by omega)
  replace x1_0 := cell_below hb x1_0 (by omega)
  replace x1_1 := cell_below hb x1_1 (by omega)
  replace x2_0 := cell_below hb x2_0 (by omega)
  replace x2_1 := cell_below hb x2_1 (by omega)
  replace f2_0 := fro_below hb f2_0 (by omega)
  replace f2_1 := fro_below hb f2_1 (by omega)
  have HBv2 := Lib.hid (HBv1.out.trans (hb.mono HBv1.out.size))
  have sv2 := hb.size
  clear hb
  have hw3 : w.heap.size + 2 < v2.heap.size := by omega
  have q0 : (v2.alloc (.cells #[.int .i64 n, .slice none 0 0] 44)).cell? ⟨v2.heap.size, 0, none⟩ = some (.int .i64 n) := cell_new _ _ _ rfl rfl
  have q1 : (v2.alloc (.cells #[.int .i64 n, .slice none 0 0] 44)).cell? ⟨v2.heap.size, 1, none⟩ = some (.slice none 0 0) := cell_new _ _ _ rfl rfl
  have qf : (v2.alloc (.cells #[.int .i64 n, .slice none 0 0] 44)).frozen? ⟨v2.heap.size, 1, none⟩ = false := fro_new _ _ _ rfl
  have hb0 := below_alloc v2 (.cells #[.int .i64 n, .slice none 0 0] 44)
  have hlt0 := size_alloc' v2 (.cells #[.int .i64 n, .slice none 0 0] 44)
  have xa := cell_below hb0 x0_1 (by omega)
  have HO0 := Lib.hid (show OutL v2.heap.size v2.heap.size (v2.alloc (.cells #[.int .i64 n, .slice none 0 0] 44)).heap.size (v2.alloc (.cells #[.int .i64 n, .slice none 0 0] 44)) (.slice none 0 0) [] [] [] from ⟨World.ownsRow_nil _ _ _ _, fun g e => by simp [Value.ownBlock] at e, LaysOf.nil _ _ _⟩)
  go_wp2_with fail
  go_loopw [7, 8, 9] (fun fa fb i wr => ∃ (k : Nat) (v : Value) (vs : List Value) (css : List (List Value)), k ≤ ls.length ∧ i = .int .i64 k ∧ fa = .int .i64 (prv ls k : Nat) ∧ fb = .int .i64 (prv ms k : Nat) ∧ OutL v2.heap.size v2.heap.size wr.heap.size wr v vs css (jnT ls ms k) ∧ Hid (wr.cell? ⟨v2.heap.size, 0, none⟩ = some (.int .i64 n) ∧ wr.cell? ⟨v2.heap.size, 1, none⟩ = some v ∧ wr.frozen? ⟨v2.heap.size, 1, none⟩ = false) ∧ Below v2.heap.size v2 wr ∧ v2.heap.size < wr.heap.size ∧ Hid (∀ i, i < k → (ls.getD i []).length + (ms.getD i []).length ≤ 4)) (fun _ _ i _ => ls.length - (intOf i).toNat)
  case atStart => exact ⟨0, _, [], [], Nat.zero_le _, rfl, rfl, rfl, HO0.out, Lib.hid ⟨q0, q1, qf⟩, hb0, hlt0, Lib.hid (fun i hi => by omega)⟩
  case round =>
    obtain ⟨k, v, vs, css, hk9, rfl, rfl, rfl, hown, HCe, hbel, hlt2, HIV⟩ := hrel
    have hsz := hbel.size
    have HOo := Lib.hid hown
    have HBl := Lib.hid hbel
    have HBw := Lib.hid (HBv2.out.trans (hbel.mono (by omega : w.heap.size ≤ v2.heap.size)))
    replace x0_0 := cell_below hbel x0_0 (by omega)
    replace x0_1 := cell_below hbel x0_1 (by omega)
    replace x1_0 := cell_below hbel x1_0 (by omega)
    replace x1_1 := cell_below hbel x1_1 (by omega)
    replace x2_0 := cell_below hbel x2_0 (by omega)
    replace x2_1 := cell_below hbel x2_1 (by omega)
    replace f2_0 := fro_below hbel f2_0 (by omega)
    replace f2_1 := fro_below hbel f2_1 (by omega)
    clear hb0 hown hbel xa q0 q1 qf hlt0 HO0
    by_cases hlt : k < ls.length
    · obtain ⟨bl, off, pl, cl, hab, hbl, hcl, _, hlay⟩ := Hhr.out.at hlt
      obtain ⟨bm, om, pm, cm, hab', hbm, hcm, _, hlam⟩ := Hhq.out.at (show k < ms.length by have := HLL.out; omega)
      subst hab
      subst hab'
      have hkm : (k : Int) < (ms.length : Int) := by have := HLL.out; omega
      have hkl : (k : Int) < (ls.length : Int) := by omega
      have hk0 : (0 : Int) ≤ (k : Int) := by omega
      have HTK := Lib.hid (show jnT ls ms (k + 1) = jnT ls ms k ++ [widJ 0 (prv ms k) (ls.getD k []) ++ widJ (prv ls k) 0 (ms.getD k [])] from jnT_succ ls ms k)
      have HTJ := Lib.hid (jnT_len ls ms k)
      have HPA := Lib.hid (prv_succ ls k)
      have HPB := Lib.hid (prv_succ ms k)
      have hg1 := HG1.out k hlt
      have hw1 := HW1.out k hlt
      have hw2 := HW2.out k hlt
      have hpv := HPV.out k (by omega)
      have hk6 := HL6.out
      obtain ⟨l, hl⟩ : ∃ l, l = ls.getD k [] := ⟨_, rfl⟩
      obtain ⟨m, hm9⟩ : ∃ m, m = ms.getD k [] := ⟨_, rfl⟩
      rw [← hl] at hcl hlay hg1 hw1 HTK HPA
      rw [← hm9] at hcm hlam hg1 hw2 HTK HPB
      have HLk := Lib.hid hl.symm
      have HMk := Lib.hid hm9.symm
      clear hl hm9
      generalize prv ls k = px at *
      generalize prv ms k = py at *
      have HWA := Lib.hid (fun (wa : World) (hb : Below wr.heap.size wr wa) => (show Calls Try.prog 87 #[.slice pl l.length cl, .int .i64 0, .int .i64 py] wa _ from wids.spec_wide 0 py pl l cl wa (by omega) (by omega) (hlay.below (HBw.out.trans (hb.mono HBw.out.size))) (by omega) hw1))
      have HWB := Lib.hid (fun (wa : World) (hb : Below wr.heap.size wr wa) => (show Calls Try.prog 87 #[.slice pm m.length cm, .int .i64 px, .int .i64 0] wa _ from wids.spec_wide px 0 pm m cm wa (by omega) (by omega) (hlam.below (HBw.out.trans (hb.mono HBw.out.size))) (by omega) hw2))
      have d0 := x0_1
      have d1 := cell_below HBw.out hcl hbl
      have d2 := x1_1
      have d3 := cell_below HBw.out hcm hbm
      have y0 := HCe.out.1
      have y1 := HCe.out.2.1
      have yf := HCe.out.2.2
      have HRl := Lib.hid (show (jnT ls ms k).length ≤ 6 by rw [jnT_len]; omega)
      obtain ⟨L1, hL1⟩ : ∃ L1, widJ 0 py l = L1 := ⟨_, rfl⟩
      obtain ⟨L2, hL2⟩ : ∃ L2, widJ px 0 m = L2 := ⟨_, rfl⟩
      have e1 : L1.length = l.length := by rw [← hL1, wid_len]
      have e2 : L2.length = m.length := by rw [← hL2, wid_len]
      rw [hL1, hL2] at HTK
      have HLa := Lib.hid hL1
      have HLb := Lib.hid hL2
      clear hL1 hL2 hlay hlam hw1 hw2 hcl hcm HCe
      generalize hRR : jnT ls ms k = RR at *
      have eS : IntKind.i64.wrap ((l.length : Int) + (m.length : Int)) = (l.length : Int) + (m.length : Int) := IntWalk.i64_in _ (by omega)
      have h44 := HFI.out k hlt
      rw [HLk.out, HMk.out] at h44
      have g6 : decide ((4 : Int) < (l.length : Int) + (m.length : Int)) = false := decide_eq_false (by omega)
      have HGk := Lib.hid (show (ls.getD k []).length + (ms.getD k []).length ≤ 4 by rw [HLk.out, HMk.out]; exact h44)
      go_wp2_with fail
      refine wp_region_noPanic ?_
      refine wp_region_held_drew (S := fun w' => w'.cell? ⟨w.heap.size, 1, none⟩ = some (.slice (some ⟨bl, off, none⟩) ls.length c) ∧ w'.cell? ⟨bl, off + k, none⟩ = some (.slice pl l.length cl) ∧ w'.cell? ⟨w.heap.size + 1, 1, none⟩ = some (.slice (some ⟨bm, om, none⟩) ms.length c') ∧ w'.cell? ⟨bm, om + k, none⟩ = some (.slice pm m.length cm)) (by kernel_rfl) ?_ (fun hHeld => ?_)
      · exact ⟨d0, d1, d2, d3⟩
      have hb9 : Below wr.heap.size wr wr.drew := (Below.refl _ _).drew
      have HBd := Lib.hid hb9
      have zd0 := cell_below hb9 d0 (by omega)
      have zd1 := cell_below hb9 d1 (by omega)
      have zd2 := cell_below hb9 d2 (by omega)
      have zd3 := cell_below hb9 d3 (by omega)
      have zy0 := cell_below hb9 y0 (by omega)
      have zy1 := cell_below hb9 y1 (by omega)
      have zyf := fro_below hb9 yf (by omega)
      have rx0_0 := cell_below hb9 x0_0 (by omega)
      have rx0_1 := cell_below hb9 x0_1 (by omega)
      have rx1_0 := cell_below hb9 x1_0 (by omega)
      have rx1_1 := cell_below hb9 x1_1 (by omega)
      have rx2_0 := cell_below hb9 x2_0 (by omega)
      have rx2_1 := cell_below hb9 x2_1 (by omega)
      have rf2_0 := fro_below hb9 f2_0 (by omega)
      have rf2_1 := fro_below hb9 f2_1 (by omega)
      clear hb9
      generalize wr.drew = wd at *
      refine wpAnyH_take (i := 0) (v := ?_) rfl (by kernel_rfl) (by kernel_rfl) (by kernel_rfl) (fun _ _ _ h => h) (Or.inl ⟨by rfl, ?_⟩) (by assumption) ?_
      rotate_left
      · intro w9 hSw; (try dsimp only at hSw); go_simp; try with_reducible rfl
      try simp only [List.getElem_toArray, List.getElem_cons_succ, List.getElem_cons_zero, Act.put, List.setIfInBounds_toArray, List.set_cons_zero, List.set_cons_succ]
      refine wpAnyH_take (i := 1) (v := ?_) rfl (by kernel_rfl) (by kernel_rfl) (by kernel_rfl) (fun _ _ _ h => h) (Or.inl ⟨by rfl, ?_⟩) (by assumption) ?_
      rotate_left
      · intro w9 hSw; (try dsimp only at hSw); go_simp; try with_reducible rfl
      try simp only [List.getElem_toArray, List.getElem_cons_succ, List.getElem_cons_zero, Act.put, List.setIfInBounds_toArray, List.set_cons_zero, List.set_cons_succ]
      refine wpAnyH_take (i := 2) (v := ?_) rfl (by kernel_rfl) (by kernel_rfl) (by kernel_rfl) (fun _ _ _ h => h) (Or.inl ⟨by rfl, ?_⟩) (by assumption) ?_
      rotate_left
      · intro w9 hSw; (try dsimp only at hSw); go_simp; try with_reducible rfl
      try simp only [List.getElem_toArray, List.getElem_cons_succ, List.getElem_cons_zero, Act.put, List.setIfInBounds_toArray, List.set_cons_zero, List.set_cons_succ]
      refine wpAnyH_take (i := 3) (v := ?_) rfl (by kernel_rfl) (by kernel_rfl) (by kernel_rfl) (fun _ _ _ h => h) (Or.inl ⟨by rfl, ?_⟩) (by assumption) ?_
      rotate_left
      · intro w9 hSw; (try dsimp only at hSw); go_simp; try with_reducible rfl
      try simp only [List.getElem_toArray, List.getElem_cons_succ, List.getElem_cons_zero, Act.put, List.setIfInBounds_toArray, List.set_cons_zero, List.set_cons_succ]
      refine wpAnyH_take (i := 4) (v := ?_) rfl (by kernel_rfl) (by kernel_rfl) (by kernel_rfl) (fun _ _ _ h => h) (Or.inl ⟨by rfl, ?_⟩) (by assumption) ?_
      rotate_left
      · intro w9 hSw; (try dsimp only at hSw); go_simp; try with_reducible rfl
      try simp only [List.getElem_toArray, List.getElem_cons_succ, List.getElem_cons_zero, Act.put, List.setIfInBounds_toArray, List.set_cons_zero, List.set_cons_succ]
      refine wpAnyH_take (i := 5) (v := ?_) rfl (by kernel_rfl) (by kernel_rfl) (by kernel_rfl) (fun _ _ _ h => h) (Or.inl ⟨by rfl, ?_⟩) (by assumption) ?_
      rotate_left
      · intro w9 hSw; (try dsimp only at hSw); go_simp; try with_reducible rfl
      try simp only [List.getElem_toArray, List.getElem_cons_succ, List.getElem_cons_zero, Act.put, List.setIfInBounds_toArray, List.set_cons_zero, List.set_cons_succ]
      refine wpAnyH_take (i := 6) (v := ?_) rfl (by kernel_rfl) (by kernel_rfl) (by kernel_rfl) (fun _ _ _ h => h) (Or.inl ⟨by rfl, ?_⟩) (by assumption) ?_
      rotate_left
      · intro w9 hSw; (try dsimp only at hSw); go_simp; try with_reducible rfl
      try simp only [List.getElem_toArray, List.getElem_cons_succ, List.getElem_cons_zero, Act.put, List.setIfInBounds_toArray, List.set_cons_zero, List.set_cons_succ]
      refine wpAnyH_take (i := 7) (v := ?_) rfl (by kernel_rfl) (by kernel_rfl) (by kernel_rfl) (fun _ _ _ h => h) (Or.inl ⟨by rfl, ?_⟩) (by assumption) ?_
      rotate_left
      · intro w9 hSw; (try dsimp only at hSw); go_simp; try with_reducible rfl
      try simp only [List.getElem_toArray, List.getElem_cons_succ, List.getElem_cons_zero, Act.put, List.setIfInBounds_toArray, List.set_cons_zero, List.set_cons_succ]
      refine wpAnyH_take (i := 8) (v := ?_) rfl (by kernel_rfl) (by kernel_rfl) (by kernel_rfl) (fun _ _ _ h => h) (Or.inl ⟨by rfl, ?_⟩) (by assumption) ?_
      rotate_left
      · intro w9 hSw; (try dsimp only at hSw); go_simp; try with_reducible rfl
      try simp only [List.getElem_toArray, List.getElem_cons_succ, List.getElem_cons_zero, Act.put, List.setIfInBounds_toArray, List.set_cons_zero, List.set_cons_succ]
      refine wpAnyH_take (i := 9) (v := ?_) rfl (by kernel_rfl) (by kernel_rfl) (by kernel_rfl) (fun _ _ _ h => h) (Or.inl ⟨by rfl, ?_⟩) (by assumption) ?_
      rotate_left
      · intro w9 hSw; (try dsimp only at hSw); go_simp; try with_reducible rfl
      try simp only [List.getElem_toArray, List.getElem_cons_succ, List.getElem_cons_zero, Act.put, List.setIfInBounds_toArray, List.set_cons_zero, List.set_cons_succ]
      refine wpAnyH_take (i := 10) (v := ?_) rfl (by kernel_rfl) (by kernel_rfl) (by kernel_rfl) (fun _ _ _ h => h) (Or.inl ⟨by rfl, ?_⟩) (by assumption) ?_
      rotate_left
      · intro w9 hSw; (try dsimp only at hSw); go_simp; try with_reducible rfl
      try simp only [List.getElem_toArray, List.getElem_cons_succ, List.getElem_cons_zero, Act.put, List.setIfInBounds_toArray, List.set_cons_zero, List.set_cons_succ]
      refine wpAnyH_take (i := 11) (v := ?_) rfl (by kernel_rfl) (by kernel_rfl) (by kernel_rfl) (fun _ _ _ h => h) (Or.inl ⟨by rfl, ?_⟩) (by assumption) ?_
      rotate_left
      · intro w9 hSw; (try dsimp only at hSw); go_simp; try with_reducible rfl
      try simp only [List.getElem_toArray, List.getElem_cons_succ, List.getElem_cons_zero, Act.put, List.setIfInBounds_toArray, List.set_cons_zero, List.set_cons_succ]
      refine wpAnyH_take (i := 12) (v := ?_) rfl (by kernel_rfl) (by kernel_rfl) (by kernel_rfl) (fun _ _ _ h => h) (Or.inl ⟨by rfl, ?_⟩) (by assumption) ?_
      rotate_left
      · intro w9 hSw; (try dsimp only at hSw); go_simp; try with_reducible rfl
      try simp only [List.getElem_toArray, List.getElem_cons_succ, List.getElem_cons_zero, Act.put, List.setIfInBounds_toArray, List.set_cons_zero, List.set_cons_succ]
      refine wpAnyH_take (i := 13) (v := ?_) rfl (by kernel_rfl) (by kernel_rfl) (by kernel_rfl) (fun _ _ _ h => h) (Or.inl ⟨by rfl, ?_⟩) (by assumption) ?_
      rotate_left
      · intro w9 hSw; (try dsimp only at hSw); go_simp; try with_reducible rfl
      try simp only [List.getElem_toArray, List.getElem_cons_succ, List.getElem_cons_zero, Act.put, List.setIfInBounds_toArray, List.set_cons_zero, List.set_cons_succ]
      refine wpAnyH_done (by kernel_rfl) ?_ _
      refine NoPanic.normal ?_
      clear d0 d1 d2 d3 y0 y1 yf x0_0 x0_1 x1_0 x1_1 x2_0 x2_1 f2_0 f2_1
      have d0 := zd0
      have d1 := zd1
      have d2 := zd2
      have d3 := zd3
      have y0 := zy0
      have y1 := zy1
      have yf := zyf
      have x0_0 := rx0_0
      have x0_1 := rx0_1
      have x1_0 := rx1_0
      have x1_1 := rx1_1
      have x2_0 := rx2_0
      have x2_1 := rx2_1
      have f2_0 := rf2_0
      have f2_1 := rf2_1
      clear zd0 zd1 zd2 zd3 zy0 zy1 zyf rx0_0 rx0_1 rx1_0 rx1_1 rx2_0 rx2_1 rf2_0 rf2_1
      clear hHeld
      go_wp2_with fail
      refine wp_region_noPanic ?_
      refine wp_region_held_drew (S := fun w' => w'.cell? ⟨w.heap.size, 1, none⟩ = some (.slice (some ⟨bl, off, none⟩) ls.length c) ∧ w'.cell? ⟨bl, off + k, none⟩ = some (.slice pl l.length cl) ∧ w'.cell? ⟨w.heap.size + 1, 1, none⟩ = some (.slice (some ⟨bm, om, none⟩) ms.length c') ∧ w'.cell? ⟨bm, om + k, none⟩ = some (.slice pm m.length cm)) (by kernel_rfl) ?_ (fun hHeld => ?_)
      · exact ⟨d0, d1, d2, d3⟩
      have hb : Below wd.heap.size wd wd.drew := (Below.refl _ _).drew
      generalize hwn : wd.drew = v61 at *
      clear hwn
      have sz61 : wd.heap.size ≤ v61.heap.size := hb.size
      replace yf := fro_keep hb y1 yf
      replace d0 := cell_keep hb d0
      replace d1 := cell_keep hb d1
      replace d2 := cell_keep hb d2
      replace d3 := cell_keep hb d3
      replace y0 := cell_keep hb y0
      replace y1 := cell_keep hb y1
      have HBh61 := Lib.hid (HBd.out.trans (hb.mono (by have := HBd.out.size; omega)))
      clear hb
      refine wpAnyH_take (i := 0) (v := ?_) rfl (by kernel_rfl) (by kernel_rfl) (by kernel_rfl) (fun _ _ _ h => h) (Or.inl ⟨by rfl, ?_⟩) (by assumption) ?_
      rotate_left
      · intro w9 hSw; (try dsimp only at hSw); go_simp; try with_reducible rfl
      try simp only [List.getElem_toArray, List.getElem_cons_succ, List.getElem_cons_zero, Act.put, List.setIfInBounds_toArray, List.set_cons_zero, List.set_cons_succ]
      refine wpAnyH_take (i := 2) (v := ?_) rfl (by kernel_rfl) (by kernel_rfl) (by kernel_rfl) (fun _ _ _ h => h) (Or.inl ⟨by rfl, ?_⟩) (by assumption) ?_
      rotate_left
      · intro w9 hSw; (try dsimp only at hSw); go_simp; try with_reducible rfl
      try simp only [List.getElem_toArray, List.getElem_cons_succ, List.getElem_cons_zero, Act.put, List.setIfInBounds_toArray, List.set_cons_zero, List.set_cons_succ]
      refine wpAnyH_take (i := 3) (v := ?_) rfl (by kernel_rfl) (by kernel_rfl) (by kernel_rfl) (fun _ _ _ h => h) (Or.inl ⟨by rfl, ?_⟩) (by assumption) ?_
      rotate_left
      · intro w9 hSw; (try dsimp only at hSw); go_simp; try with_reducible rfl
      try simp only [List.getElem_toArray, List.getElem_cons_succ, List.getElem_cons_zero, Act.put, List.setIfInBounds_toArray, List.set_cons_zero, List.set_cons_succ]
      refine wpAnyH_take (i := 4) (v := ?_) rfl (by kernel_rfl) (by kernel_rfl) (by kernel_rfl) (fun _ _ _ h => h) (Or.inl ⟨by rfl, ?_⟩) (by assumption) ?_
      rotate_left
      · intro w9 hSw; (try dsimp only at hSw); go_simp; try with_reducible rfl
      try simp only [List.getElem_toArray, List.getElem_cons_succ, List.getElem_cons_zero, Act.put, List.setIfInBounds_toArray, List.set_cons_zero, List.set_cons_succ]
      refine wpAnyH_take (i := 5) (v := ?_) rfl (by kernel_rfl) (by kernel_rfl) (by kernel_rfl) (fun _ _ _ h => h) (Or.inl ⟨by rfl, ?_⟩) (by assumption) ?_
      rotate_left
      · intro w9 hSw; (try dsimp only at hSw); go_simp; try with_reducible rfl
      try simp only [List.getElem_toArray, List.getElem_cons_succ, List.getElem_cons_zero, Act.put, List.setIfInBounds_toArray, List.set_cons_zero, List.set_cons_succ]
      refine wpAnyH_take (i := 6) (v := ?_) rfl (by kernel_rfl) (by kernel_rfl) (by kernel_rfl) (fun _ _ _ h => h) (Or.inl ⟨by rfl, ?_⟩) (by assumption) ?_
      rotate_left
      · intro w9 hSw; (try dsimp only at hSw); go_simp; try with_reducible rfl
      try simp only [List.getElem_toArray, List.getElem_cons_succ, List.getElem_cons_zero, Act.put, List.setIfInBounds_toArray, List.set_cons_zero, List.set_cons_succ]
      refine wpAnyH_take (i := 7) (v := ?_) rfl (by kernel_rfl) (by kernel_rfl) (by kernel_rfl) (fun _ _ _ h => h) (Or.inl ⟨by rfl, ?_⟩) (by assumption) ?_
      rotate_left
      · intro w9 hSw; (try dsimp only at hSw); go_simp; try with_reducible rfl
      try simp only [List.getElem_toArray, List.getElem_cons_succ, List.getElem_cons_zero, Act.put, List.setIfInBounds_toArray, List.set_cons_zero, List.set_cons_succ]
      refine wpAnyH_take (i := 9) (v := ?_) rfl (by kernel_rfl) (by kernel_rfl) (by kernel_rfl) (fun _ _ _ h => h) (Or.inl ⟨by rfl, ?_⟩) (by assumption) ?_
      rotate_left
      · intro w9 hSw; (try dsimp only at hSw); go_simp; try with_reducible rfl
      try simp only [List.getElem_toArray, List.getElem_cons_succ, List.getElem_cons_zero, Act.put, List.setIfInBounds_toArray, List.set_cons_zero, List.set_cons_succ]
      refine wpAnyH_take (i := 10) (v := ?_) rfl (by kernel_rfl) (by kernel_rfl) (by kernel_rfl) (fun _ _ _ h => h) (Or.inl ⟨by rfl, ?_⟩) (by assumption) ?_
      rotate_left
      · intro w9 hSw; (try dsimp only at hSw); go_simp; try with_reducible rfl
      try simp only [List.getElem_toArray, List.getElem_cons_succ, List.getElem_cons_zero, Act.put, List.setIfInBounds_toArray, List.set_cons_zero, List.set_cons_succ]
      refine wpAnyH_take (i := 11) (v := ?_) rfl (by kernel_rfl) (by kernel_rfl) (by kernel_rfl) (fun _ _ _ h => h) (Or.inl ⟨by rfl, ?_⟩) (by assumption) ?_
      rotate_left
      · intro w9 hSw; (try dsimp only at hSw); go_simp; try with_reducible rfl
      try simp only [List.getElem_toArray, List.getElem_cons_succ, List.getElem_cons_zero, Act.put, List.setIfInBounds_toArray, List.set_cons_zero, List.set_cons_succ]
      refine wpAnyH_take (i := 12) (v := ?_) rfl (by kernel_rfl) (by kernel_rfl) (by kernel_rfl) (fun _ _ _ h => h) (Or.inl ⟨by rfl, ?_⟩) (by assumption) ?_
      rotate_left
      · intro w9 hSw; (try dsimp only at hSw); go_simp; try with_reducible rfl
      try simp only [List.getElem_toArray, List.getElem_cons_succ, List.getElem_cons_zero, Act.put, List.setIfInBounds_toArray, List.set_cons_zero, List.set_cons_succ]
      refine wpAnyH_take (i := 13) (v := ?_) rfl (by kernel_rfl) (by kernel_rfl) (by kernel_rfl) (fun _ _ _ h => h) (Or.inl ⟨by rfl, ?_⟩) (by assumption) ?_
      rotate_left
      · intro w9 hSw; (try dsimp only at hSw); go_simp; try with_reducible rfl
      try simp only [List.getElem_toArray, List.getElem_cons_succ, List.getElem_cons_zero, Act.put, List.setIfInBounds_toArray, List.set_cons_zero, List.set_cons_succ]
      refine wpAnyH_take (i := 14) (v := ?_) rfl (by kernel_rfl) (by kernel_rfl) (by kernel_rfl) (fun _ _ _ h => h) (Or.inl ⟨by rfl, ?_⟩) (by assumption) ?_
      rotate_left
      · intro w9 hSw; (try dsimp only at hSw); go_simp; try with_reducible rfl
      try simp only [List.getElem_toArray, List.getElem_cons_succ, List.getElem_cons_zero, Act.put, List.setIfInBounds_toArray, List.set_cons_zero, List.set_cons_succ]
      refine wpAnyH_ready (rs := [1, 8]) (by kernel_rfl) (by simp) ?_
      refine AllReadyH.cons rfl (fun K hK => ?_) ?_
      · skip
        clear hHeld
        go_simp
        refine hK.out _ _ ?_ (fun hHeld => ?_)
        · exact ⟨d0, d1, d2, d3⟩
        clear hK K
        try simp only [List.getElem_toArray, List.getElem_cons_succ, List.getElem_cons_zero, Act.put, List.setIfInBounds_toArray, List.set_cons_zero, List.set_cons_succ]
        refine wpAnyH_ready (rs := [8]) (by kernel_rfl) (by simp) ?_
        refine AllReadyH.cons rfl (fun K hK => ?_) AllReadyH.nil
        clear hHeld
        go_simp
        refine (HWA.out _ HBh61.out).mono ?_
        rintro e1 v62 ⟨p1, q1, cs1, rfl, hk1, hb⟩
        rw [HLa.out] at hk1
        have HK1 := Lib.hid hk1
        have hlo1 : wr.heap.size ≤ v61.heap.size := HBh61.out.size
        clear hk1
        have sz62 : v61.heap.size ≤ v62.heap.size := hb.size
        replace yf := fro_keep hb y1 yf
        replace d0 := cell_keep hb d0
        replace d1 := cell_keep hb d1
        replace d2 := cell_keep hb d2
        replace d3 := cell_keep hb d3
        replace y0 := cell_keep hb y0
        replace y1 := cell_keep hb y1
        have HBh62 := Lib.hid (HBh61.out.trans (hb.mono (by have := HBh61.out.size; omega)))
        clear hb
        refine hK.out _ _ ?_ (fun hHeld => ?_)
        · exact ⟨d0, d1, d2, d3⟩
        clear hK K
        try simp only [List.getElem_toArray, List.getElem_cons_succ, List.getElem_cons_zero, Act.put, List.setIfInBounds_toArray, List.set_cons_zero, List.set_cons_succ]
        refine wpAnyH_ready (rs := [15]) (by kernel_rfl) (by simp) ?_
        refine AllReadyH.cons rfl (fun K hK => ?_) AllReadyH.nil
        clear hHeld
        go_simp
        refine (HWB.out _ HBh62.out).mono ?_
        rintro e2 v63 ⟨p2, q2, cs2, rfl, hk2, hb⟩
        rw [HLb.out] at hk2
        have HK1b := Lib.hid (widc.k_below HK1.out hb)
        obtain ⟨g2, cap2, hf2, _, _⟩ := hk2.1.form (by rw [e2]; omega)
        obtain ⟨rfl, rfl⟩ : p2 = some ⟨g2, 0, none⟩ ∧ q2 = cap2 := by simp at hf2; exact ⟨hf2.1, hf2.2.2⟩
        have HK2 := Lib.hid hk2
        clear hf2 hk2 HK1
        have sz63 : v62.heap.size ≤ v63.heap.size := hb.size
        replace yf := fro_keep hb y1 yf
        replace d0 := cell_keep hb d0
        replace d1 := cell_keep hb d1
        replace d2 := cell_keep hb d2
        replace d3 := cell_keep hb d3
        replace y0 := cell_keep hb y0
        replace y1 := cell_keep hb y1
        have HBh63 := Lib.hid (HBh62.out.trans (hb.mono (by have := HBh62.out.size; omega)))
        clear hb
        refine hK.out _ _ ?_ (fun hHeld => ?_)
        · exact ⟨d0, d1, d2, d3⟩
        clear hK K
        try simp only [List.getElem_toArray, List.getElem_cons_succ, List.getElem_cons_zero, Act.put, List.setIfInBounds_toArray, List.set_cons_zero, List.set_cons_succ]
        refine wpAnyH_ready (rs := [16]) (by kernel_rfl) (by simp) ?_
        refine AllReadyH.cons rfl (fun K hK => ?_) AllReadyH.nil
        clear hHeld
        have hr1 := HK1b.out.1
        rw [e1] at hr1
        have hv1 : ∀ g, (Value.slice p1 l.length q1).ownBlock = some g → v61.heap.size ≤ g := fun g e => (hr1.lt g e).1
        refine step_append_any (by rfl) _ _ 110 (by rfl) v61.heap.size 56 i0 (.agg #[.slice none 0 0, .int .i64 0]) 2 32 Try.underlying110 hi hz0 hz1 hz2 (by rfl) (by decide) (.slice p1 l.length q1) l.length (flatJ cs1 L1) (by rfl) hr1 ⟨g2, 0, none⟩ m.length q2 (flatJ cs2 L2) (by rfl) (by rw [flatJ_length _ _ (widc.k_len HK2.out), e2]) (fun j u hj => HK2.out.1.cells (g := g2) rfl j u hj) (widc.k_one HK2.out) (by unfold maxLen; omega) (by omega) (by omega) ?_
        intro u3 v64 hown hg hat
        obtain ⟨g3, q3, rfl, _, _⟩ := hown.form (by omega)
        have HK3 := Lib.hid (show OwnK v61.heap.size v64.heap.size v64 (.slice (some ⟨g3, 0, none⟩) (l.length + m.length) q3) (L1 ++ L2) (cs1 ++ cs2) from widc.k_app HK1b.out HK2.out (by omega) (by omega) (by omega) (by rw [e1, e2]; exact hown) hg)
        have sz64 : v63.heap.size ≤ v64.heap.size := hg.size
        replace yf := fro_grow hg y1 yf (fun g e => by have := hv1 g e; omega)
        replace d0 := cell_grow hg d0 (fun g e => by have := hv1 g e; omega)
        replace d1 := cell_grow hg d1 (fun g e => by have := hv1 g e; omega)
        replace d2 := cell_grow hg d2 (fun g e => by have := hv1 g e; omega)
        replace d3 := cell_grow hg d3 (fun g e => by have := hv1 g e; omega)
        replace y0 := cell_grow hg y0 (fun g e => by have := hv1 g e; omega)
        replace y1 := cell_grow hg y1 (fun g e => by have := hv1 g e; omega)
        have HBh64 := Lib.hid (HBh63.out.grown hg (by have := HBh63.out.size; omega) (fun g e => by have := hv1 g e; omega))
        clear hown hg hat hr1 hv1 HK1b HK2
        have HBu := HBh64
        refine hK.out _ _ ?_ (fun hHeld => ?_)
        · exact ⟨d0, d1, d2, d3⟩
        clear hK K
        try simp only [List.getElem_toArray, List.getElem_cons_succ, List.getElem_cons_zero, Act.put, List.setIfInBounds_toArray, List.set_cons_zero, List.set_cons_succ]
        refine wpAnyH_ready (rs := [17]) (by kernel_rfl) (by simp) ?_
        refine AllReadyH.cons rfl (fun K hK => ?_) AllReadyH.nil
        clear hHeld
        go_simp
        have el0 : (v64.alloc (.cells #[.slice (some ⟨g3, 0, none⟩) (l.length + m.length) q3] 110)).cell? ⟨v64.heap.size, 0, none⟩ = some (.slice (some ⟨g3, 0, none⟩) (l.length + m.length) q3) := cell_new _ _ _ rfl rfl
        have hb := below_alloc v64 (.cells #[.slice (some ⟨g3, 0, none⟩) (l.length + m.length) q3] 110)
        have hsE : (v64.alloc (.cells #[.slice (some ⟨g3, 0, none⟩) (l.length + m.length) q3] 110)).heap.size = v64.heap.size + 1 := by simp
        obtain ⟨v65, hwE⟩ : ∃ W9, W9 = v64.alloc (.cells #[.slice (some ⟨g3, 0, none⟩) (l.length + m.length) q3] 110) := ⟨_, rfl⟩
        rw [← hwE] at el0 hb hsE ⊢
        have HWE := Lib.hid hwE.symm
        clear hwE
        have sz65 : v64.heap.size ≤ v65.heap.size := hb.size
        replace yf := fro_keep hb y1 yf
        replace d0 := cell_keep hb d0
        replace d1 := cell_keep hb d1
        replace d2 := cell_keep hb d2
        replace d3 := cell_keep hb d3
        replace y0 := cell_keep hb y0
        replace y1 := cell_keep hb y1
        have HBh65 := Lib.hid (HBh64.out.trans (hb.mono (by have := HBh64.out.size; omega)))
        clear hb
        refine hK.out _ _ ?_ (fun hHeld => ?_)
        · exact ⟨d0, d1, d2, d3⟩
        clear hK K
        try simp only [List.getElem_toArray, List.getElem_cons_succ, List.getElem_cons_zero, Act.put, List.setIfInBounds_toArray, List.set_cons_zero, List.set_cons_succ]
        refine wpAnyH_ready (rs := [18]) (by kernel_rfl) (by simp) ?_
        refine AllReadyH.cons rfl (fun K hK => ?_) AllReadyH.nil
        clear hHeld
        have hol := HOo.out.below HBh65.out
        have hvl : ∀ g, v.ownBlock = some g → v2.heap.size ≤ g ∧ g ≠ v2.heap.size := fun g e => ⟨(hol.1.lt g e).1, (hol.2.1 g e).1⟩
        refine step_append_lies _ (by rfl) _ _ _ (by rfl) v2.heap.size 110 j0 (.slice none 0 0) 1 24 Try.underlying42 hj hjz0 hjz1 hjz2 rfl (by omega) v RR.length vs (by rfl) hol.1 ⟨v64.heap.size, 0, none⟩ 1 1 [.slice (some ⟨g3, 0, none⟩) (l.length + m.length) q3] (by rfl) (by rfl) (fun j u hj9 => by (have h7 : j = 0 := by (have := (List.getElem?_eq_some_iff.1 hj9).1; simp at this; exact this)); subst h7; simp at hj9; subst hj9; simpa [Addr.add] using el0) (by simp [Value.oneCell']) (by omega) (by have := HRl.out; unfold maxLen; omega) (by have := HRl.out; omega) (by have := HBh65.out.size; omega) (v64.heap.size + 1) hsE ?_
        intro gg cap v66 hown hg hat hltg
        have hsn := OutL.row (O := (.cells #[.slice (some ⟨g3, 0, none⟩) (l.length + m.length) q3] 110)) (HOo.out.below HBu.out) (HK3.out.widen (by omega : wr.heap.size ≤ v61.heap.size) (Nat.le_refl _)) (by have := HBu.out.size; omega) (by omega) (by rw [HWE.out]; exact hg) hown hat hltg
        have HBn := Lib.hid ((HBl.out.trans (HBh65.out.mono (by omega : v2.heap.size ≤ wr.heap.size))).grown hg (by have := HBh65.out.size; omega) (fun g e => (hvl g e).1))
        have sz66 : v65.heap.size ≤ v66.heap.size := hg.size
        replace yf := fro_grow hg y1 yf (fun g e => by have := hvl g e; omega)
        replace d0 := cell_grow hg d0 (fun g e => by have := hvl g e; omega)
        replace d1 := cell_grow hg d1 (fun g e => by have := hvl g e; omega)
        replace d2 := cell_grow hg d2 (fun g e => by have := hvl g e; omega)
        replace d3 := cell_grow hg d3 (fun g e => by have := hvl g e; omega)
        replace y0 := cell_grow hg y0 (fun g e => by have := hvl g e; omega)
        replace y1 := cell_grow hg y1 (fun g e => by have := hvl g e; omega)
        have HSN := Lib.hid hsn
        clear hown hg hat hol hvl hsn
        refine hK.out _ _ ?_ (fun hHeld => ?_)
        · exact ⟨d0, d1, d2, d3⟩
        clear hK K
        try simp only [List.getElem_toArray, List.getElem_cons_succ, List.getElem_cons_zero, Act.put, List.setIfInBounds_toArray, List.set_cons_zero, List.set_cons_succ]
        refine wpAnyH_take (i := 19) (v := ?_) rfl (by kernel_rfl) (by kernel_rfl) (by kernel_rfl) (fun _ _ _ h => h) (Or.inl ⟨by rfl, ?_⟩) (by assumption) ?_
        rotate_left
        · intro w9 hSw; (try dsimp only at hSw); go_simp; try with_reducible rfl
        try simp only [List.getElem_toArray, List.getElem_cons_succ, List.getElem_cons_zero, Act.put, List.setIfInBounds_toArray, List.set_cons_zero, List.set_cons_succ]
        refine wpAnyH_ready (rs := [20]) (by kernel_rfl) (by simp) ?_
        refine AllReadyH.cons rfl (fun K hK => ?_) AllReadyH.nil
        clear hHeld
        go_simp
        have z1 := World.cell?_setCell_same v66 ⟨v2.heap.size, 1, none⟩ (.slice (some ⟨gg, 0, none⟩) (RR.length + 1) cap) y1
        have z0 : (v66.setCell ⟨v2.heap.size, 1, none⟩ (.slice (some ⟨gg, 0, none⟩) (RR.length + 1) cap)).cell? ⟨v2.heap.size, 0, none⟩ = some (.int .i64 n) := (World.cell?_setCell_other _ _ _ _ (by simp)).trans y0
        have zf : (v66.setCell ⟨v2.heap.size, 1, none⟩ (.slice (some ⟨gg, 0, none⟩) (RR.length + 1) cap)).frozen? ⟨v2.heap.size, 1, none⟩ = false := by rw [World.frozen?_setCell]; exact yf
        have HOz := Lib.hid (HSN.out.set 1 (.slice (some ⟨gg, 0, none⟩) (RR.length + 1) cap))
        have HBz := Lib.hid (HBn.out.setCell (p := ⟨v2.heap.size, 1, none⟩) (by show v2.heap.size ≤ v2.heap.size; omega) (.slice (some ⟨gg, 0, none⟩) (RR.length + 1) cap))
        have hsz7 : (v66.setCell ⟨v2.heap.size, 1, none⟩ (.slice (some ⟨gg, 0, none⟩) (RR.length + 1) cap)).heap.size = v66.heap.size := size_set _ _ _
        have nd0 := cell_set2 (o' := 1) d0 (by omega : w.heap.size ≠ v2.heap.size) (.slice (some ⟨gg, 0, none⟩) (RR.length + 1) cap)
        have nd1 := cell_set2 (o' := 1) d1 (by omega : bl ≠ v2.heap.size) (.slice (some ⟨gg, 0, none⟩) (RR.length + 1) cap)
        have nd2 := cell_set2 (o' := 1) d2 (by omega : w.heap.size + 1 ≠ v2.heap.size) (.slice (some ⟨gg, 0, none⟩) (RR.length + 1) cap)
        have nd3 := cell_set2 (o' := 1) d3 (by omega : bm ≠ v2.heap.size) (.slice (some ⟨gg, 0, none⟩) (RR.length + 1) cap)
        clear d0 d1 d2 d3 y0 y1 yf
        generalize hwn : (v66.setCell ⟨v2.heap.size, 1, none⟩ (.slice (some ⟨gg, 0, none⟩) (RR.length + 1) cap)) = v67 at *
        clear hwn
        have d0 := nd0
        have d1 := nd1
        have d2 := nd2
        have d3 := nd3
        clear nd0 nd1 nd2 nd3
        refine hK.out _ _ ?_ (fun hHeld => ?_)
        · exact ⟨d0, d1, d2, d3⟩
        clear hK K
        try simp only [List.getElem_toArray, List.getElem_cons_succ, List.getElem_cons_zero, Act.put, List.setIfInBounds_toArray, List.set_cons_zero, List.set_cons_succ]
        refine wpAnyH_done (by kernel_rfl) ?_ _
        refine NoPanic.normal ?_
        clear hHeld
        have HOz2 := Lib.hid (show OutL v2.heap.size v2.heap.size v67.heap.size v67 (.slice (some ⟨gg, 0, none⟩) (RR.length + 1) cap) (vs ++ [.slice (some ⟨g3, 0, none⟩) (l.length + m.length) q3]) (css ++ [cs1 ++ cs2]) (RR ++ [L1 ++ L2]) from by rw [hsz7]; exact HOz.out)
        go_wp2_with fail
        go_roundw
        case rel => exact ⟨k + 1, _, _, _, by omega, by go_num, by rw [HPA.out], by rw [HPB.out], by rw [HTK.out]; exact HOz2.out, Lib.hid ⟨z0, z1, zf⟩, HBz.out, by omega, Lib.hid (fun i hi => (Nat.lt_or_ge i k).elim (HIV.out i) (fun h9 => (Nat.le_antisymm h9 (Nat.le_of_lt_succ hi)) ▸ HGk.out))⟩
        case measure => simp [intOf]; omega
      refine AllReadyH.cons rfl (fun K hK => ?_) AllReadyH.nil
      clear hHeld
      go_simp
      refine (HWA.out _ HBh61.out).mono ?_
      rintro e1 v62 ⟨p1, q1, cs1, rfl, hk1, hb⟩
      rw [HLa.out] at hk1
      have HK1 := Lib.hid hk1
      have hlo1 : wr.heap.size ≤ v61.heap.size := HBh61.out.size
      clear hk1
      have sz62 : v61.heap.size ≤ v62.heap.size := hb.size
      replace yf := fro_keep hb y1 yf
      replace d0 := cell_keep hb d0
      replace d1 := cell_keep hb d1
      replace d2 := cell_keep hb d2
      replace d3 := cell_keep hb d3
      replace y0 := cell_keep hb y0
      replace y1 := cell_keep hb y1
      have HBh62 := Lib.hid (HBh61.out.trans (hb.mono (by have := HBh61.out.size; omega)))
      clear hb
      refine hK.out _ _ ?_ (fun hHeld => ?_)
      · exact ⟨d0, d1, d2, d3⟩
      clear hK K
      try simp only [List.getElem_toArray, List.getElem_cons_succ, List.getElem_cons_zero, Act.put, List.setIfInBounds_toArray, List.set_cons_zero, List.set_cons_succ]
      refine wpAnyH_ready (rs := [1, 15]) (by kernel_rfl) (by simp) ?_
      refine AllReadyH.cons rfl (fun K hK => ?_) ?_
      · skip
        clear hHeld
        go_simp
        refine hK.out _ _ ?_ (fun hHeld => ?_)
        · exact ⟨d0, d1, d2, d3⟩
        clear hK K
        try simp only [List.getElem_toArray, List.getElem_cons_succ, List.getElem_cons_zero, Act.put, List.setIfInBounds_toArray, List.set_cons_zero, List.set_cons_succ]
        refine wpAnyH_ready (rs := [15]) (by kernel_rfl) (by simp) ?_
        refine AllReadyH.cons rfl (fun K hK => ?_) AllReadyH.nil
        clear hHeld
        go_simp
        refine (HWB.out _ HBh62.out).mono ?_
        rintro e2 v63 ⟨p2, q2, cs2, rfl, hk2, hb⟩
        rw [HLb.out] at hk2
        have HK1b := Lib.hid (widc.k_below HK1.out hb)
        obtain ⟨g2, cap2, hf2, _, _⟩ := hk2.1.form (by rw [e2]; omega)
        obtain ⟨rfl, rfl⟩ : p2 = some ⟨g2, 0, none⟩ ∧ q2 = cap2 := by simp at hf2; exact ⟨hf2.1, hf2.2.2⟩
        have HK2 := Lib.hid hk2
        clear hf2 hk2 HK1
        have sz63 : v62.heap.size ≤ v63.heap.size := hb.size
        replace yf := fro_keep hb y1 yf
        replace d0 := cell_keep hb d0
        replace d1 := cell_keep hb d1
        replace d2 := cell_keep hb d2
        replace d3 := cell_keep hb d3
        replace y0 := cell_keep hb y0
        replace y1 := cell_keep hb y1
        have HBh63 := Lib.hid (HBh62.out.trans (hb.mono (by have := HBh62.out.size; omega)))
        clear hb
        refine hK.out _ _ ?_ (fun hHeld => ?_)
        · exact ⟨d0, d1, d2, d3⟩
        clear hK K
        try simp only [List.getElem_toArray, List.getElem_cons_succ, List.getElem_cons_zero, Act.put, List.setIfInBounds_toArray, List.set_cons_zero, List.set_cons_succ]
        refine wpAnyH_ready (rs := [16]) (by kernel_rfl) (by simp) ?_
        refine AllReadyH.cons rfl (fun K hK => ?_) AllReadyH.nil
        clear hHeld
        have hr1 := HK1b.out.1
        rw [e1] at hr1
        have hv1 : ∀ g, (Value.slice p1 l.length q1).ownBlock = some g → v61.heap.size ≤ g := fun g e => (hr1.lt g e).1
        refine step_append_any (by rfl) _ _ 110 (by rfl) v61.heap.size 56 i0 (.agg #[.slice none 0 0, .int .i64 0]) 2 32 Try.underlying110 hi hz0 hz1 hz2 (by rfl) (by decide) (.slice p1 l.length q1) l.length (flatJ cs1 L1) (by rfl) hr1 ⟨g2, 0, none⟩ m.length q2 (flatJ cs2 L2) (by rfl) (by rw [flatJ_length _ _ (widc.k_len HK2.out), e2]) (fun j u hj => HK2.out.1.cells (g := g2) rfl j u hj) (widc.k_one HK2.out) (by unfold maxLen; omega) (by omega) (by omega) ?_
        intro u3 v64 hown hg hat
        obtain ⟨g3, q3, rfl, _, _⟩ := hown.form (by omega)
        have HK3 := Lib.hid (show OwnK v61.heap.size v64.heap.size v64 (.slice (some ⟨g3, 0, none⟩) (l.length + m.length) q3) (L1 ++ L2) (cs1 ++ cs2) from widc.k_app HK1b.out HK2.out (by omega) (by omega) (by omega) (by rw [e1, e2]; exact hown) hg)
        have sz64 : v63.heap.size ≤ v64.heap.size := hg.size
        replace yf := fro_grow hg y1 yf (fun g e => by have := hv1 g e; omega)
        replace d0 := cell_grow hg d0 (fun g e => by have := hv1 g e; omega)
        replace d1 := cell_grow hg d1 (fun g e => by have := hv1 g e; omega)
        replace d2 := cell_grow hg d2 (fun g e => by have := hv1 g e; omega)
        replace d3 := cell_grow hg d3 (fun g e => by have := hv1 g e; omega)
        replace y0 := cell_grow hg y0 (fun g e => by have := hv1 g e; omega)
        replace y1 := cell_grow hg y1 (fun g e => by have := hv1 g e; omega)
        have HBh64 := Lib.hid (HBh63.out.grown hg (by have := HBh63.out.size; omega) (fun g e => by have := hv1 g e; omega))
        clear hown hg hat hr1 hv1 HK1b HK2
        have HBu := HBh64
        refine hK.out _ _ ?_ (fun hHeld => ?_)
        · exact ⟨d0, d1, d2, d3⟩
        clear hK K
        try simp only [List.getElem_toArray, List.getElem_cons_succ, List.getElem_cons_zero, Act.put, List.setIfInBounds_toArray, List.set_cons_zero, List.set_cons_succ]
        refine wpAnyH_ready (rs := [17]) (by kernel_rfl) (by simp) ?_
        refine AllReadyH.cons rfl (fun K hK => ?_) AllReadyH.nil
        clear hHeld
        go_simp
        have el0 : (v64.alloc (.cells #[.slice (some ⟨g3, 0, none⟩) (l.length + m.length) q3] 110)).cell? ⟨v64.heap.size, 0, none⟩ = some (.slice (some ⟨g3, 0, none⟩) (l.length + m.length) q3) := cell_new _ _ _ rfl rfl
        have hb := below_alloc v64 (.cells #[.slice (some ⟨g3, 0, none⟩) (l.length + m.length) q3] 110)
        have hsE : (v64.alloc (.cells #[.slice (some ⟨g3, 0, none⟩) (l.length + m.length) q3] 110)).heap.size = v64.heap.size + 1 := by simp
        obtain ⟨v65, hwE⟩ : ∃ W9, W9 = v64.alloc (.cells #[.slice (some ⟨g3, 0, none⟩) (l.length + m.length) q3] 110) := ⟨_, rfl⟩
        rw [← hwE] at el0 hb hsE ⊢
        have HWE := Lib.hid hwE.symm
        clear hwE
        have sz65 : v64.heap.size ≤ v65.heap.size := hb.size
        replace yf := fro_keep hb y1 yf
        replace d0 := cell_keep hb d0
        replace d1 := cell_keep hb d1
        replace d2 := cell_keep hb d2
        replace d3 := cell_keep hb d3
        replace y0 := cell_keep hb y0
        replace y1 := cell_keep hb y1
        have HBh65 := Lib.hid (HBh64.out.trans (hb.mono (by have := HBh64.out.size; omega)))
        clear hb
        refine hK.out _ _ ?_ (fun hHeld => ?_)
        · exact ⟨d0, d1, d2, d3⟩
        clear hK K
        try simp only [List.getElem_toArray, List.getElem_cons_succ, List.getElem_cons_zero, Act.put, List.setIfInBounds_toArray, List.set_cons_zero, List.set_cons_succ]
        refine wpAnyH_ready (rs := [18]) (by kernel_rfl) (by simp) ?_
        refine AllReadyH.cons rfl (fun K hK => ?_) AllReadyH.nil
        clear hHeld
        have hol := HOo.out.below HBh65.out
        have hvl : ∀ g, v.ownBlock = some g → v2.heap.size ≤ g ∧ g ≠ v2.heap.size := fun g e => ⟨(hol.1.lt g e).1, (hol.2.1 g e).1⟩
        refine step_append_lies _ (by rfl) _ _ _ (by rfl) v2.heap.size 110 j0 (.slice none 0 0) 1 24 Try.underlying42 hj hjz0 hjz1 hjz2 rfl (by omega) v RR.length vs (by rfl) hol.1 ⟨v64.heap.size, 0, none⟩ 1 1 [.slice (some ⟨g3, 0, none⟩) (l.length + m.length) q3] (by rfl) (by rfl) (fun j u hj9 => by (have h7 : j = 0 := by (have := (List.getElem?_eq_some_iff.1 hj9).1; simp at this; exact this)); subst h7; simp at hj9; subst hj9; simpa [Addr.add] using el0) (by simp [Value.oneCell']) (by omega) (by have := HRl.out; unfold maxLen; omega) (by have := HRl.out; omega) (by have := HBh65.out.size; omega) (v64.heap.size + 1) hsE ?_
        intro gg cap v66 hown hg hat hltg
        have hsn := OutL.row (O := (.cells #[.slice (some ⟨g3, 0, none⟩) (l.length + m.length) q3] 110)) (HOo.out.below HBu.out) (HK3.out.widen (by omega : wr.heap.size ≤ v61.heap.size) (Nat.le_refl _)) (by have := HBu.out.size; omega) (by omega) (by rw [HWE.out]; exact hg) hown hat hltg
        have HBn := Lib.hid ((HBl.out.trans (HBh65.out.mono (by omega : v2.heap.size ≤ wr.heap.size))).grown hg (by have := HBh65.out.size; omega) (fun g e => (hvl g e).1))
        have sz66 : v65.heap.size ≤ v66.heap.size := hg.size
        replace yf := fro_grow hg y1 yf (fun g e => by have := hvl g e; omega)
        replace d0 := cell_grow hg d0 (fun g e => by have := hvl g e; omega)
        replace d1 := cell_grow hg d1 (fun g e => by have := hvl g e; omega)
        replace d2 := cell_grow hg d2 (fun g e => by have := hvl g e; omega)
        replace d3 := cell_grow hg d3 (fun g e => by have := hvl g e; omega)
        replace y0 := cell_grow hg y0 (fun g e => by have := hvl g e; omega)
        replace y1 := cell_grow hg y1 (fun g e => by have := hvl g e; omega)
        have HSN := Lib.hid hsn
        clear hown hg hat hol hvl hsn
        refine hK.out _ _ ?_ (fun hHeld => ?_)
        · exact ⟨d0, d1, d2, d3⟩
        clear hK K
        try simp only [List.getElem_toArray, List.getElem_cons_succ, List.getElem_cons_zero, Act.put, List.setIfInBounds_toArray, List.set_cons_zero, List.set_cons_succ]
        refine wpAnyH_take (i := 19) (v := ?_) rfl (by kernel_rfl) (by kernel_rfl) (by kernel_rfl) (fun _ _ _ h => h) (Or.inl ⟨by rfl, ?_⟩) (by assumption) ?_
        rotate_left
        · intro w9 hSw; (try dsimp only at hSw); go_simp; try with_reducible rfl
        try simp only [List.getElem_toArray, List.getElem_cons_succ, List.getElem_cons_zero, Act.put, List.setIfInBounds_toArray, List.set_cons_zero, List.set_cons_succ]
        refine wpAnyH_ready (rs := [20]) (by kernel_rfl) (by simp) ?_
        refine AllReadyH.cons rfl (fun K hK => ?_) AllReadyH.nil
        clear hHeld
        go_simp
        have z1 := World.cell?_setCell_same v66 ⟨v2.heap.size, 1, none⟩ (.slice (some ⟨gg, 0, none⟩) (RR.length + 1) cap) y1
        have z0 : (v66.setCell ⟨v2.heap.size, 1, none⟩ (.slice (some ⟨gg, 0, none⟩) (RR.length + 1) cap)).cell? ⟨v2.heap.size, 0, none⟩ = some (.int .i64 n) := (World.cell?_setCell_other _ _ _ _ (by simp)).trans y0
        have zf : (v66.setCell ⟨v2.heap.size, 1, none⟩ (.slice (some ⟨gg, 0, none⟩) (RR.length + 1) cap)).frozen? ⟨v2.heap.size, 1, none⟩ = false := by rw [World.frozen?_setCell]; exact yf
        have HOz := Lib.hid (HSN.out.set 1 (.slice (some ⟨gg, 0, none⟩) (RR.length + 1) cap))
        have HBz := Lib.hid (HBn.out.setCell (p := ⟨v2.heap.size, 1, none⟩) (by show v2.heap.size ≤ v2.heap.size; omega) (.slice (some ⟨gg, 0, none⟩) (RR.length + 1) cap))
        have hsz7 : (v66.setCell ⟨v2.heap.size, 1, none⟩ (.slice (some ⟨gg, 0, none⟩) (RR.length + 1) cap)).heap.size = v66.heap.size := size_set _ _ _
        have nd0 := cell_set2 (o' := 1) d0 (by omega : w.heap.size ≠ v2.heap.size) (.slice (some ⟨gg, 0, none⟩) (RR.length + 1) cap)
        have nd1 := cell_set2 (o' := 1) d1 (by omega : bl ≠ v2.heap.size) (.slice (some ⟨gg, 0, none⟩) (RR.length + 1) cap)
        have nd2 := cell_set2 (o' := 1) d2 (by omega : w.heap.size + 1 ≠ v2.heap.size) (.slice (some ⟨gg, 0, none⟩) (RR.length + 1) cap)
        have nd3 := cell_set2 (o' := 1) d3 (by omega : bm ≠ v2.heap.size) (.slice (some ⟨gg, 0, none⟩) (RR.length + 1) cap)
        clear d0 d1 d2 d3 y0 y1 yf
        generalize hwn : (v66.setCell ⟨v2.heap.size, 1, none⟩ (.slice (some ⟨gg, 0, none⟩) (RR.length + 1) cap)) = v67 at *
        clear hwn
        have d0 := nd0
        have d1 := nd1
        have d2 := nd2
        have d3 := nd3
        clear nd0 nd1 nd2 nd3
        refine hK.out _ _ ?_ (fun hHeld => ?_)
        · exact ⟨d0, d1, d2, d3⟩
        clear hK K
        try simp only [List.getElem_toArray, List.getElem_cons_succ, List.getElem_cons_zero, Act.put, List.setIfInBounds_toArray, List.set_cons_zero, List.set_cons_succ]
        refine wpAnyH_done (by kernel_rfl) ?_ _
        refine NoPanic.normal ?_
        clear hHeld
        have HOz2 := Lib.hid (show OutL v2.heap.size v2.heap.size v67.heap.size v67 (.slice (some ⟨gg, 0, none⟩) (RR.length + 1) cap) (vs ++ [.slice (some ⟨g3, 0, none⟩) (l.length + m.length) q3]) (css ++ [cs1 ++ cs2]) (RR ++ [L1 ++ L2]) from by rw [hsz7]; exact HOz.out)
        go_wp2_with fail
        go_roundw
        case rel => exact ⟨k + 1, _, _, _, by omega, by go_num, by rw [HPA.out], by rw [HPB.out], by rw [HTK.out]; exact HOz2.out, Lib.hid ⟨z0, z1, zf⟩, HBz.out, by omega, Lib.hid (fun i hi => (Nat.lt_or_ge i k).elim (HIV.out i) (fun h9 => (Nat.le_antisymm h9 (Nat.le_of_lt_succ hi)) ▸ HGk.out))⟩
        case measure => simp [intOf]; omega
      refine AllReadyH.cons rfl (fun K hK => ?_) AllReadyH.nil
      clear hHeld
      go_simp
      refine (HWB.out _ HBh62.out).mono ?_
      rintro e2 v63 ⟨p2, q2, cs2, rfl, hk2, hb⟩
      rw [HLb.out] at hk2
      have HK1b := Lib.hid (widc.k_below HK1.out hb)
      obtain ⟨g2, cap2, hf2, _, _⟩ := hk2.1.form (by rw [e2]; omega)
      obtain ⟨rfl, rfl⟩ : p2 = some ⟨g2, 0, none⟩ ∧ q2 = cap2 := by simp at hf2; exact ⟨hf2.1, hf2.2.2⟩
      have HK2 := Lib.hid hk2
      clear hf2 hk2 HK1
      have sz63 : v62.heap.size ≤ v63.heap.size := hb.size
      replace yf := fro_keep hb y1 yf
      replace d0 := cell_keep hb d0
      replace d1 := cell_keep hb d1
      replace d2 := cell_keep hb d2
      replace d3 := cell_keep hb d3
      replace y0 := cell_keep hb y0
      replace y1 := cell_keep hb y1
      have HBh63 := Lib.hid (HBh62.out.trans (hb.mono (by have := HBh62.out.size; omega)))
      clear hb
      refine hK.out _ _ ?_ (fun hHeld => ?_)
      · exact ⟨d0, d1, d2, d3⟩
      clear hK K
      try simp only [List.getElem_toArray, List.getElem_cons_succ, List.getElem_cons_zero, Act.put, List.setIfInBounds_toArray, List.set_cons_zero, List.set_cons_succ]
      refine wpAnyH_ready (rs := [1, 16]) (by kernel_rfl) (by simp) ?_
      refine AllReadyH.cons rfl (fun K hK => ?_) ?_
      · skip
        clear hHeld
        go_simp
        refine hK.out _ _ ?_ (fun hHeld => ?_)
        · exact ⟨d0, d1, d2, d3⟩
        clear hK K
        try simp only [List.getElem_toArray, List.getElem_cons_succ, List.getElem_cons_zero, Act.put, List.setIfInBounds_toArray, List.set_cons_zero, List.set_cons_succ]
        refine wpAnyH_ready (rs := [16]) (by kernel_rfl) (by simp) ?_
        refine AllReadyH.cons rfl (fun K hK => ?_) AllReadyH.nil
        clear hHeld
        have hr1 := HK1b.out.1
        rw [e1] at hr1
        have hv1 : ∀ g, (Value.slice p1 l.length q1).ownBlock = some g → v61.heap.size ≤ g := fun g e => (hr1.lt g e).1
        refine step_append_any (by rfl) _ _ 110 (by rfl) v61.heap.size 56 i0 (.agg #[.slice none 0 0, .int .i64 0]) 2 32 Try.underlying110 hi hz0 hz1 hz2 (by rfl) (by decide) (.slice p1 l.length q1) l.length (flatJ cs1 L1) (by rfl) hr1 ⟨g2, 0, none⟩ m.length q2 (flatJ cs2 L2) (by rfl) (by rw [flatJ_length _ _ (widc.k_len HK2.out), e2]) (fun j u hj => HK2.out.1.cells (g := g2) rfl j u hj) (widc.k_one HK2.out) (by unfold maxLen; omega) (by omega) (by omega) ?_
        intro u3 v64 hown hg hat
        obtain ⟨g3, q3, rfl, _, _⟩ := hown.form (by omega)
        have HK3 := Lib.hid (show OwnK v61.heap.size v64.heap.size v64 (.slice (some ⟨g3, 0, none⟩) (l.length + m.length) q3) (L1 ++ L2) (cs1 ++ cs2) from widc.k_app HK1b.out HK2.out (by omega) (by omega) (by omega) (by rw [e1, e2]; exact hown) hg)
        have sz64 : v63.heap.size ≤ v64.heap.size := hg.size
        replace yf := fro_grow hg y1 yf (fun g e => by have := hv1 g e; omega)
        replace d0 := cell_grow hg d0 (fun g e => by have := hv1 g e; omega)
        replace d1 := cell_grow hg d1 (fun g e => by have := hv1 g e; omega)
        replace d2 := cell_grow hg d2 (fun g e => by have := hv1 g e; omega)
        replace d3 := cell_grow hg d3 (fun g e => by have := hv1 g e; omega)
        replace y0 := cell_grow hg y0 (fun g e => by have := hv1 g e; omega)
        replace y1 := cell_grow hg y1 (fun g e => by have := hv1 g e; omega)
        have HBh64 := Lib.hid (HBh63.out.grown hg (by have := HBh63.out.size; omega) (fun g e => by have := hv1 g e; omega))
        clear hown hg hat hr1 hv1 HK1b HK2
        have HBu := HBh64
        refine hK.out _ _ ?_ (fun hHeld => ?_)
        · exact ⟨d0, d1, d2, d3⟩
        clear hK K
        try simp only [List.getElem_toArray, List.getElem_cons_succ, List.getElem_cons_zero, Act.put, List.setIfInBounds_toArray, List.set_cons_zero, List.set_cons_succ]
        refine wpAnyH_ready (rs := [17]) (by kernel_rfl) (by simp) ?_
        refine AllReadyH.cons rfl (fun K hK => ?_) AllReadyH.nil
        clear hHeld
        go_simp
        have el0 : (v64.alloc (.cells #[.slice (some ⟨g3, 0, none⟩) (l.length + m.length) q3] 110)).cell? ⟨v64.heap.size, 0, none⟩ = some (.slice (some ⟨g3, 0, none⟩) (l.length + m.length) q3) := cell_new _ _ _ rfl rfl
        have hb := below_alloc v64 (.cells #[.slice (some ⟨g3, 0, none⟩) (l.length + m.length) q3] 110)
        have hsE : (v64.alloc (.cells #[.slice (some ⟨g3, 0, none⟩) (l.length + m.length) q3] 110)).heap.size = v64.heap.size + 1 := by simp
        obtain ⟨v65, hwE⟩ : ∃ W9, W9 = v64.alloc (.cells #[.slice (some ⟨g3, 0, none⟩) (l.length + m.length) q3] 110) := ⟨_, rfl⟩
        rw [← hwE] at el0 hb hsE ⊢
        have HWE := Lib.hid hwE.symm
        clear hwE
        have sz65 : v64.heap.size ≤ v65.heap.size := hb.size
        replace yf := fro_keep hb y1 yf
        replace d0 := cell_keep hb d0
        replace d1 := cell_keep hb d1
        replace d2 := cell_keep hb d2
        replace d3 := cell_keep hb d3
        replace y0 := cell_keep hb y0
        replace y1 := cell_keep hb y1
        have HBh65 := Lib.hid (HBh64.out.trans (hb.mono (by have := HBh64.out.size; omega)))
        clear hb
        refine hK.out _ _ ?_ (fun hHeld => ?_)
        · exact ⟨d0, d1, d2, d3⟩
        clear hK K
        try simp only [List.getElem_toArray, List.getElem_cons_succ, List.getElem_cons_zero, Act.put, List.setIfInBounds_toArray, List.set_cons_zero, List.set_cons_succ]
        refine wpAnyH_ready (rs := [18]) (by kernel_rfl) (by simp) ?_
        refine AllReadyH.cons rfl (fun K hK => ?_) AllReadyH.nil
        clear hHeld
        have hol := HOo.out.below HBh65.out
        have hvl : ∀ g, v.ownBlock = some g → v2.heap.size ≤ g ∧ g ≠ v2.heap.size := fun g e => ⟨(hol.1.lt g e).1, (hol.2.1 g e).1⟩
        refine step_append_lies _ (by rfl) _ _ _ (by rfl) v2.heap.size 110 j0 (.slice none 0 0) 1 24 Try.underlying42 hj hjz0 hjz1 hjz2 rfl (by omega) v RR.length vs (by rfl) hol.1 ⟨v64.heap.size, 0, none⟩ 1 1 [.slice (some ⟨g3, 0, none⟩) (l.length + m.length) q3] (by rfl) (by rfl) (fun j u hj9 => by (have h7 : j = 0 := by (have := (List.getElem?_eq_some_iff.1 hj9).1; simp at this; exact this)); subst h7; simp at hj9; subst hj9; simpa [Addr.add] using el0) (by simp [Value.oneCell']) (by omega) (by have := HRl.out; unfold maxLen; omega) (by have := HRl.out; omega) (by have := HBh65.out.size; omega) (v64.heap.size + 1) hsE ?_
        intro gg cap v66 hown hg hat hltg
        have hsn := OutL.row (O := (.cells #[.slice (some ⟨g3, 0, none⟩) (l.length + m.length) q3] 110)) (HOo.out.below HBu.out) (HK3.out.widen (by omega : wr.heap.size ≤ v61.heap.size) (Nat.le_refl _)) (by have := HBu.out.size; omega) (by omega) (by rw [HWE.out]; exact hg) hown hat hltg
        have HBn := Lib.hid ((HBl.out.trans (HBh65.out.mono (by omega : v2.heap.size ≤ wr.heap.size))).grown hg (by have := HBh65.out.size; omega) (fun g e => (hvl g e).1))
        have sz66 : v65.heap.size ≤ v66.heap.size := hg.size
        replace yf := fro_grow hg y1 yf (fun g e => by have := hvl g e; omega)
        replace d0 := cell_grow hg d0 (fun g e => by have := hvl g e; omega)
        replace d1 := cell_grow hg d1 (fun g e => by have := hvl g e; omega)
        replace d2 := cell_grow hg d2 (fun g e => by have := hvl g e; omega)
        replace d3 := cell_grow hg d3 (fun g e => by have := hvl g e; omega)
        replace y0 := cell_grow hg y0 (fun g e => by have := hvl g e; omega)
        replace y1 := cell_grow hg y1 (fun g e => by have := hvl g e; omega)
        have HSN := Lib.hid hsn
        clear hown hg hat hol hvl hsn
        refine hK.out _ _ ?_ (fun hHeld => ?_)
        · exact ⟨d0, d1, d2, d3⟩
        clear hK K
        try simp only [List.getElem_toArray, List.getElem_cons_succ, List.getElem_cons_zero, Act.put, List.setIfInBounds_toArray, List.set_cons_zero, List.set_cons_succ]
        refine wpAnyH_take (i := 19) (v := ?_) rfl (by kernel_rfl) (by kernel_rfl) (by kernel_rfl) (fun _ _ _ h => h) (Or.inl ⟨by rfl, ?_⟩) (by assumption) ?_
        rotate_left
        · intro w9 hSw; (try dsimp only at hSw); go_simp; try with_reducible rfl
        try simp only [List.getElem_toArray, List.getElem_cons_succ, List.getElem_cons_zero, Act.put, List.setIfInBounds_toArray, List.set_cons_zero, List.set_cons_succ]
        refine wpAnyH_ready (rs := [20]) (by kernel_rfl) (by simp) ?_
        refine AllReadyH.cons rfl (fun K hK => ?_) AllReadyH.nil
        clear hHeld
        go_simp
        have z1 := World.cell?_setCell_same v66 ⟨v2.heap.size, 1, none⟩ (.slice (some ⟨gg, 0, none⟩) (RR.length + 1) cap) y1
        have z0 : (v66.setCell ⟨v2.heap.size, 1, none⟩ (.slice (some ⟨gg, 0, none⟩) (RR.length + 1) cap)).cell? ⟨v2.heap.size, 0, none⟩ = some (.int .i64 n) := (World.cell?_setCell_other _ _ _ _ (by simp)).trans y0
        have zf : (v66.setCell ⟨v2.heap.size, 1, none⟩ (.slice (some ⟨gg, 0, none⟩) (RR.length + 1) cap)).frozen? ⟨v2.heap.size, 1, none⟩ = false := by rw [World.frozen?_setCell]; exact yf
        have HOz := Lib.hid (HSN.out.set 1 (.slice (some ⟨gg, 0, none⟩) (RR.length + 1) cap))
        have HBz := Lib.hid (HBn.out.setCell (p := ⟨v2.heap.size, 1, none⟩) (by show v2.heap.size ≤ v2.heap.size; omega) (.slice (some ⟨gg, 0, none⟩) (RR.length + 1) cap))
        have hsz7 : (v66.setCell ⟨v2.heap.size, 1, none⟩ (.slice (some ⟨gg, 0, none⟩) (RR.length + 1) cap)).heap.size = v66.heap.size := size_set _ _ _
        have nd0 := cell_set2 (o' := 1) d0 (by omega : w.heap.size ≠ v2.heap.size) (.slice (some ⟨gg, 0, none⟩) (RR.length + 1) cap)
        have nd1 := cell_set2 (o' := 1) d1 (by omega : bl ≠ v2.heap.size) (.slice (some ⟨gg, 0, none⟩) (RR.length + 1) cap)
        have nd2 := cell_set2 (o' := 1) d2 (by omega : w.heap.size + 1 ≠ v2.heap.size) (.slice (some ⟨gg, 0, none⟩) (RR.length + 1) cap)
        have nd3 := cell_set2 (o' := 1) d3 (by omega : bm ≠ v2.heap.size) (.slice (some ⟨gg, 0, none⟩) (RR.length + 1) cap)
        clear d0 d1 d2 d3 y0 y1 yf
        generalize hwn : (v66.setCell ⟨v2.heap.size, 1, none⟩ (.slice (some ⟨gg, 0, none⟩) (RR.length + 1) cap)) = v67 at *
        clear hwn
        have d0 := nd0
        have d1 := nd1
        have d2 := nd2
        have d3 := nd3
        clear nd0 nd1 nd2 nd3
        refine hK.out _ _ ?_ (fun hHeld => ?_)
        · exact ⟨d0, d1, d2, d3⟩
        clear hK K
        try simp only [List.getElem_toArray, List.getElem_cons_succ, List.getElem_cons_zero, Act.put, List.setIfInBounds_toArray, List.set_cons_zero, List.set_cons_succ]
        refine wpAnyH_done (by kernel_rfl) ?_ _
        refine NoPanic.normal ?_
        clear hHeld
        have HOz2 := Lib.hid (show OutL v2.heap.size v2.heap.size v67.heap.size v67 (.slice (some ⟨gg, 0, none⟩) (RR.length + 1) cap) (vs ++ [.slice (some ⟨g3, 0, none⟩) (l.length + m.length) q3]) (css ++ [cs1 ++ cs2]) (RR ++ [L1 ++ L2]) from by rw [hsz7]; exact HOz.out)
        go_wp2_with fail
        go_roundw
        case rel => exact ⟨k + 1, _, _, _, by omega, by go_num, by rw [HPA.out], by rw [HPB.out], by rw [HTK.out]; exact HOz2.out, Lib.hid ⟨z0, z1, zf⟩, HBz.out, by omega, Lib.hid (fun i hi => (Nat.lt_or_ge i k).elim (HIV.out i) (fun h9 => (Nat.le_antisymm h9 (Nat.le_of_lt_succ hi)) ▸ HGk.out))⟩
        case measure => simp [intOf]; omega
      refine AllReadyH.cons rfl (fun K hK => ?_) AllReadyH.nil
      clear hHeld
      have hr1 := HK1b.out.1
      rw [e1] at hr1
      have hv1 : ∀ g, (Value.slice p1 l.length q1).ownBlock = some g → v61.heap.size ≤ g := fun g e => (hr1.lt g e).1
      refine step_append_any (by rfl) _ _ 110 (by rfl) v61.heap.size 56 i0 (.agg #[.slice none 0 0, .int .i64 0]) 2 32 Try.underlying110 hi hz0 hz1 hz2 (by rfl) (by decide) (.slice p1 l.length q1) l.length (flatJ cs1 L1) (by rfl) hr1 ⟨g2, 0, none⟩ m.length q2 (flatJ cs2 L2) (by rfl) (by rw [flatJ_length _ _ (widc.k_len HK2.out), e2]) (fun j u hj => HK2.out.1.cells (g := g2) rfl j u hj) (widc.k_one HK2.out) (by unfold maxLen; omega) (by omega) (by omega) ?_
      intro u3 v64 hown hg hat
      obtain ⟨g3, q3, rfl, _, _⟩ := hown.form (by omega)
      have HK3 := Lib.hid (show OwnK v61.heap.size v64.heap.size v64 (.slice (some ⟨g3, 0, none⟩) (l.length + m.length) q3) (L1 ++ L2) (cs1 ++ cs2) from widc.k_app HK1b.out HK2.out (by omega) (by omega) (by omega) (by rw [e1, e2]; exact hown) hg)
      have sz64 : v63.heap.size ≤ v64.heap.size := hg.size
      replace yf := fro_grow hg y1 yf (fun g e => by have := hv1 g e; omega)
      replace d0 := cell_grow hg d0 (fun g e => by have := hv1 g e; omega)
      replace d1 := cell_grow hg d1 (fun g e => by have := hv1 g e; omega)
      replace d2 := cell_grow hg d2 (fun g e => by have := hv1 g e; omega)
      replace d3 := cell_grow hg d3 (fun g e => by have := hv1 g e; omega)
      replace y0 := cell_grow hg y0 (fun g e => by have := hv1 g e; omega)
      replace y1 := cell_grow hg y1 (fun g e => by have := hv1 g e; omega)
      have HBh64 := Lib.hid (HBh63.out.grown hg (by have := HBh63.out.size; omega) (fun g e => by have := hv1 g e; omega))
      clear hown hg hat hr1 hv1 HK1b HK2
      have HBu := HBh64
      refine hK.out _ _ ?_ (fun hHeld => ?_)
      · exact ⟨d0, d1, d2, d3⟩
      clear hK K
      try simp only [List.getElem_toArray, List.getElem_cons_succ, List.getElem_cons_zero, Act.put, List.setIfInBounds_toArray, List.set_cons_zero, List.set_cons_succ]
      refine wpAnyH_ready (rs := [1, 17]) (by kernel_rfl) (by simp) ?_
      refine AllReadyH.cons rfl (fun K hK => ?_) ?_
      · skip
        clear hHeld
        go_simp
        refine hK.out _ _ ?_ (fun hHeld => ?_)
        · exact ⟨d0, d1, d2, d3⟩
        clear hK K
        try simp only [List.getElem_toArray, List.getElem_cons_succ, List.getElem_cons_zero, Act.put, List.setIfInBounds_toArray, List.set_cons_zero, List.set_cons_succ]
        refine wpAnyH_ready (rs := [17]) (by kernel_rfl) (by simp) ?_
        refine AllReadyH.cons rfl (fun K hK => ?_) AllReadyH.nil
        clear hHeld
        go_simp
        have el0 : (v64.alloc (.cells #[.slice (some ⟨g3, 0, none⟩) (l.length + m.length) q3] 110)).cell? ⟨v64.heap.size, 0, none⟩ = some (.slice (some ⟨g3, 0, none⟩) (l.length + m.length) q3) := cell_new _ _ _ rfl rfl
        have hb := below_alloc v64 (.cells #[.slice (some ⟨g3, 0, none⟩) (l.length + m.length) q3] 110)
        have hsE : (v64.alloc (.cells #[.slice (some ⟨g3, 0, none⟩) (l.length + m.length) q3] 110)).heap.size = v64.heap.size + 1 := by simp
        obtain ⟨v65, hwE⟩ : ∃ W9, W9 = v64.alloc (.cells #[.slice (some ⟨g3, 0, none⟩) (l.length + m.length) q3] 110) := ⟨_, rfl⟩
        rw [← hwE] at el0 hb hsE ⊢
        have HWE := Lib.hid hwE.symm
        clear hwE
        have sz65 : v64.heap.size ≤ v65.heap.size := hb.size
        replace yf := fro_keep hb y1 yf
        replace d0 := cell_keep hb d0
        replace d1 := cell_keep hb d1
        replace d2 := cell_keep hb d2
        replace d3 := cell_keep hb d3
        replace y0 := cell_keep hb y0
        replace y1 := cell_keep hb y1
        have HBh65 := Lib.hid (HBh64.out.trans (hb.mono (by have := HBh64.out.size; omega)))
        clear hb
        refine hK.out _ _ ?_ (fun hHeld => ?_)
        · exact ⟨d0, d1, d2, d3⟩
        clear hK K
        try simp only [List.getElem_toArray, List.getElem_cons_succ, List.getElem_cons_zero, Act.put, List.setIfInBounds_toArray, List.set_cons_zero, List.set_cons_succ]
        refine wpAnyH_ready (rs := [18]) (by kernel_rfl) (by simp) ?_
        refine AllReadyH.cons rfl (fun K hK => ?_) AllReadyH.nil
        clear hHeld
        have hol := HOo.out.below HBh65.out
        have hvl : ∀ g, v.ownBlock = some g → v2.heap.size ≤ g ∧ g ≠ v2.heap.size := fun g e => ⟨(hol.1.lt g e).1, (hol.2.1 g e).1⟩
        refine step_append_lies _ (by rfl) _ _ _ (by rfl) v2.heap.size 110 j0 (.slice none 0 0) 1 24 Try.underlying42 hj hjz0 hjz1 hjz2 rfl (by omega) v RR.length vs (by rfl) hol.1 ⟨v64.heap.size, 0, none⟩ 1 1 [.slice (some ⟨g3, 0, none⟩) (l.length + m.length) q3] (by rfl) (by rfl) (fun j u hj9 => by (have h7 : j = 0 := by (have := (List.getElem?_eq_some_iff.1 hj9).1; simp at this; exact this)); subst h7; simp at hj9; subst hj9; simpa [Addr.add] using el0) (by simp [Value.oneCell']) (by omega) (by have := HRl.out; unfold maxLen; omega) (by have := HRl.out; omega) (by have := HBh65.out.size; omega) (v64.heap.size + 1) hsE ?_
        intro gg cap v66 hown hg hat hltg
        have hsn := OutL.row (O := (.cells #[.slice (some ⟨g3, 0, none⟩) (l.length + m.length) q3] 110)) (HOo.out.below HBu.out) (HK3.out.widen (by omega : wr.heap.size ≤ v61.heap.size) (Nat.le_refl _)) (by have := HBu.out.size; omega) (by omega) (by rw [HWE.out]; exact hg) hown hat hltg
        have HBn := Lib.hid ((HBl.out.trans (HBh65.out.mono (by omega : v2.heap.size ≤ wr.heap.size))).grown hg (by have := HBh65.out.size; omega) (fun g e => (hvl g e).1))
        have sz66 : v65.heap.size ≤ v66.heap.size := hg.size
        replace yf := fro_grow hg y1 yf (fun g e => by have := hvl g e; omega)
        replace d0 := cell_grow hg d0 (fun g e => by have := hvl g e; omega)
        replace d1 := cell_grow hg d1 (fun g e => by have := hvl g e; omega)
        replace d2 := cell_grow hg d2 (fun g e => by have := hvl g e; omega)
        replace d3 := cell_grow hg d3 (fun g e => by have := hvl g e; omega)
        replace y0 := cell_grow hg y0 (fun g e => by have := hvl g e; omega)
        replace y1 := cell_grow hg y1 (fun g e => by have := hvl g e; omega)
        have HSN := Lib.hid hsn
        clear hown hg hat hol hvl hsn
        refine hK.out _ _ ?_ (fun hHeld => ?_)
        · exact ⟨d0, d1, d2, d3⟩
        clear hK K
        try simp only [List.getElem_toArray, List.getElem_cons_succ, List.getElem_cons_zero, Act.put, List.setIfInBounds_toArray, List.set_cons_zero, List.set_cons_succ]
        refine wpAnyH_take (i := 19) (v := ?_) rfl (by kernel_rfl) (by kernel_rfl) (by kernel_rfl) (fun _ _ _ h => h) (Or.inl ⟨by rfl, ?_⟩) (by assumption) ?_
        rotate_left
        · intro w9 hSw; (try dsimp only at hSw); go_simp; try with_reducible rfl
        try simp only [List.getElem_toArray, List.getElem_cons_succ, List.getElem_cons_zero, Act.put, List.setIfInBounds_toArray, List.set_cons_zero, List.set_cons_succ]
        refine wpAnyH_ready (rs := [20]) (by kernel_rfl) (by simp) ?_
        refine AllReadyH.cons rfl (fun K hK => ?_) AllReadyH.nil
        clear hHeld
        go_simp
        have z1 := World.cell?_setCell_same v66 ⟨v2.heap.size, 1, none⟩ (.slice (some ⟨gg, 0, none⟩) (RR.length + 1) cap) y1
        have z0 : (v66.setCell ⟨v2.heap.size, 1, none⟩ (.slice (some ⟨gg, 0, none⟩) (RR.length + 1) cap)).cell? ⟨v2.heap.size, 0, none⟩ = some (.int .i64 n) := (World.cell?_setCell_other _ _ _ _ (by simp)).trans y0
        have zf : (v66.setCell ⟨v2.heap.size, 1, none⟩ (.slice (some ⟨gg, 0, none⟩) (RR.length + 1) cap)).frozen? ⟨v2.heap.size, 1, none⟩ = false := by rw [World.frozen?_setCell]; exact yf
        have HOz := Lib.hid (HSN.out.set 1 (.slice (some ⟨gg, 0, none⟩) (RR.length + 1) cap))
        have HBz := Lib.hid (HBn.out.setCell (p := ⟨v2.heap.size, 1, none⟩) (by show v2.heap.size ≤ v2.heap.size; omega) (.slice (some ⟨gg, 0, none⟩) (RR.length + 1) cap))
        have hsz7 : (v66.setCell ⟨v2.heap.size, 1, none⟩ (.slice (some ⟨gg, 0, none⟩) (RR.length + 1) cap)).heap.size = v66.heap.size := size_set _ _ _
        have nd0 := cell_set2 (o' := 1) d0 (by omega : w.heap.size ≠ v2.heap.size) (.slice (some ⟨gg, 0, none⟩) (RR.length + 1) cap)
        have nd1 := cell_set2 (o' := 1) d1 (by omega : bl ≠ v2.heap.size) (.slice (some ⟨gg, 0, none⟩) (RR.length + 1) cap)
        have nd2 := cell_set2 (o' := 1) d2 (by omega : w.heap.size + 1 ≠ v2.heap.size) (.slice (some ⟨gg, 0, none⟩) (RR.length + 1) cap)
        have nd3 := cell_set2 (o' := 1) d3 (by omega : bm ≠ v2.heap.size) (.slice (some ⟨gg, 0, none⟩) (RR.length + 1) cap)
        clear d0 d1 d2 d3 y0 y1 yf
        generalize hwn : (v66.setCell ⟨v2.heap.size, 1, none⟩ (.slice (some ⟨gg, 0, none⟩) (RR.length + 1) cap)) = v67 at *
        clear hwn
        have d0 := nd0
        have d1 := nd1
        have d2 := nd2
        have d3 := nd3
        clear nd0 nd1 nd2 nd3
        refine hK.out _ _ ?_ (fun hHeld => ?_)
        · exact ⟨d0, d1, d2, d3⟩
        clear hK K
        try simp only [List.getElem_toArray, List.getElem_cons_succ, List.getElem_cons_zero, Act.put, List.setIfInBounds_toArray, List.set_cons_zero, List.set_cons_succ]
        refine wpAnyH_done (by kernel_rfl) ?_ _
        refine NoPanic.normal ?_
        clear hHeld
        have HOz2 := Lib.hid (show OutL v2.heap.size v2.heap.size v67.heap.size v67 (.slice (some ⟨gg, 0, none⟩) (RR.length + 1) cap) (vs ++ [.slice (some ⟨g3, 0, none⟩) (l.length + m.length) q3]) (css ++ [cs1 ++ cs2]) (RR ++ [L1 ++ L2]) from by rw [hsz7]; exact HOz.out)
        go_wp2_with fail
        go_roundw
        case rel => exact ⟨k + 1, _, _, _, by omega, by go_num, by rw [HPA.out], by rw [HPB.out], by rw [HTK.out]; exact HOz2.out, Lib.hid ⟨z0, z1, zf⟩, HBz.out, by omega, Lib.hid (fun i hi => (Nat.lt_or_ge i k).elim (HIV.out i) (fun h9 => (Nat.le_antisymm h9 (Nat.le_of_lt_succ hi)) ▸ HGk.out))⟩
        case measure => simp [intOf]; omega
      refine AllReadyH.cons rfl (fun K hK => ?_) AllReadyH.nil
      clear hHeld
      go_simp
      have el0 : (v64.alloc (.cells #[.slice (some ⟨g3, 0, none⟩) (l.length + m.length) q3] 110)).cell? ⟨v64.heap.size, 0, none⟩ = some (.slice (some ⟨g3, 0, none⟩) (l.length + m.length) q3) := cell_new _ _ _ rfl rfl
      have hb := below_alloc v64 (.cells #[.slice (some ⟨g3, 0, none⟩) (l.length + m.length) q3] 110)
      have hsE : (v64.alloc (.cells #[.slice (some ⟨g3, 0, none⟩) (l.length + m.length) q3] 110)).heap.size = v64.heap.size + 1 := by simp
      obtain ⟨v65, hwE⟩ : ∃ W9, W9 = v64.alloc (.cells #[.slice (some ⟨g3, 0, none⟩) (l.length + m.length) q3] 110) := ⟨_, rfl⟩
      rw [← hwE] at el0 hb hsE ⊢
      have HWE := Lib.hid hwE.symm
      clear hwE
      have sz65 : v64.heap.size ≤ v65.heap.size := hb.size
      replace yf := fro_keep hb y1 yf
      replace d0 := cell_keep hb d0
      replace d1 := cell_keep hb d1
      replace d2 := cell_keep hb d2
      replace d3 := cell_keep hb d3
      replace y0 := cell_keep hb y0
      replace y1 := cell_keep hb y1
      have HBh65 := Lib.hid (HBh64.out.trans (hb.mono (by have := HBh64.out.size; omega)))
      clear hb
      refine hK.out _ _ ?_ (fun hHeld => ?_)
      · exact ⟨d0, d1, d2, d3⟩
      clear hK K
      try simp only [List.getElem_toArray, List.getElem_cons_succ, List.getElem_cons_zero, Act.put, List.setIfInBounds_toArray, List.set_cons_zero, List.set_cons_succ]
      refine wpAnyH_ready (rs := [1]) (by kernel_rfl) (by simp) ?_
      refine AllReadyH.cons rfl (fun K hK => ?_) AllReadyH.nil
      clear hHeld
      go_simp
      refine hK.out _ _ ?_ (fun hHeld => ?_)
      · exact ⟨d0, d1, d2, d3⟩
      clear hK K
      try simp only [List.getElem_toArray, List.getElem_cons_succ, List.getElem_cons_zero, Act.put, List.setIfInBounds_toArray, List.set_cons_zero, List.set_cons_succ]
      refine wpAnyH_ready (rs := [18]) (by kernel_rfl) (by simp) ?_
      refine AllReadyH.cons rfl (fun K hK => ?_) AllReadyH.nil
      clear hHeld
      have hol := HOo.out.below HBh65.out
      have hvl : ∀ g, v.ownBlock = some g → v2.heap.size ≤ g ∧ g ≠ v2.heap.size := fun g e => ⟨(hol.1.lt g e).1, (hol.2.1 g e).1⟩
      refine step_append_lies _ (by rfl) _ _ _ (by rfl) v2.heap.size 110 j0 (.slice none 0 0) 1 24 Try.underlying42 hj hjz0 hjz1 hjz2 rfl (by omega) v RR.length vs (by rfl) hol.1 ⟨v64.heap.size, 0, none⟩ 1 1 [.slice (some ⟨g3, 0, none⟩) (l.length + m.length) q3] (by rfl) (by rfl) (fun j u hj9 => by (have h7 : j = 0 := by (have := (List.getElem?_eq_some_iff.1 hj9).1; simp at this; exact this)); subst h7; simp at hj9; subst hj9; simpa [Addr.add] using el0) (by simp [Value.oneCell']) (by omega) (by have := HRl.out; unfold maxLen; omega) (by have := HRl.out; omega) (by have := HBh65.out.size; omega) (v64.heap.size + 1) hsE ?_
      intro gg cap v66 hown hg hat hltg
      have hsn := OutL.row (O := (.cells #[.slice (some ⟨g3, 0, none⟩) (l.length + m.length) q3] 110)) (HOo.out.below HBu.out) (HK3.out.widen (by omega : wr.heap.size ≤ v61.heap.size) (Nat.le_refl _)) (by have := HBu.out.size; omega) (by omega) (by rw [HWE.out]; exact hg) hown hat hltg
      have HBn := Lib.hid ((HBl.out.trans (HBh65.out.mono (by omega : v2.heap.size ≤ wr.heap.size))).grown hg (by have := HBh65.out.size; omega) (fun g e => (hvl g e).1))
      have sz66 : v65.heap.size ≤ v66.heap.size := hg.size
      replace yf := fro_grow hg y1 yf (fun g e => by have := hvl g e; omega)
      replace d0 := cell_grow hg d0 (fun g e => by have := hvl g e; omega)
      replace d1 := cell_grow hg d1 (fun g e => by have := hvl g e; omega)
      replace d2 := cell_grow hg d2 (fun g e => by have := hvl g e; omega)
      replace d3 := cell_grow hg d3 (fun g e => by have := hvl g e; omega)
      replace y0 := cell_grow hg y0 (fun g e => by have := hvl g e; omega)
      replace y1 := cell_grow hg y1 (fun g e => by have := hvl g e; omega)
      have HSN := Lib.hid hsn
      clear hown hg hat hol hvl hsn
      refine hK.out _ _ ?_ (fun hHeld => ?_)
      · exact ⟨d0, d1, d2, d3⟩
      clear hK K
      try simp only [List.getElem_toArray, List.getElem_cons_succ, List.getElem_cons_zero, Act.put, List.setIfInBounds_toArray, List.set_cons_zero, List.set_cons_succ]
      refine wpAnyH_take (i := 19) (v := ?_) rfl (by kernel_rfl) (by kernel_rfl) (by kernel_rfl) (fun _ _ _ h => h) (Or.inl ⟨by rfl, ?_⟩) (by assumption) ?_
      rotate_left
      · intro w9 hSw; (try dsimp only at hSw); go_simp; try with_reducible rfl
      try simp only [List.getElem_toArray, List.getElem_cons_succ, List.getElem_cons_zero, Act.put, List.setIfInBounds_toArray, List.set_cons_zero, List.set_cons_succ]
      refine wpAnyH_ready (rs := [20]) (by kernel_rfl) (by simp) ?_
      refine AllReadyH.cons rfl (fun K hK => ?_) AllReadyH.nil
      clear hHeld
      go_simp
      have z1 := World.cell?_setCell_same v66 ⟨v2.heap.size, 1, none⟩ (.slice (some ⟨gg, 0, none⟩) (RR.length + 1) cap) y1
      have z0 : (v66.setCell ⟨v2.heap.size, 1, none⟩ (.slice (some ⟨gg, 0, none⟩) (RR.length + 1) cap)).cell? ⟨v2.heap.size, 0, none⟩ = some (.int .i64 n) := (World.cell?_setCell_other _ _ _ _ (by simp)).trans y0
      have zf : (v66.setCell ⟨v2.heap.size, 1, none⟩ (.slice (some ⟨gg, 0, none⟩) (RR.length + 1) cap)).frozen? ⟨v2.heap.size, 1, none⟩ = false := by rw [World.frozen?_setCell]; exact yf
      have HOz := Lib.hid (HSN.out.set 1 (.slice (some ⟨gg, 0, none⟩) (RR.length + 1) cap))
      have HBz := Lib.hid (HBn.out.setCell (p := ⟨v2.heap.size, 1, none⟩) (by show v2.heap.size ≤ v2.heap.size; omega) (.slice (some ⟨gg, 0, none⟩) (RR.length + 1) cap))
      have hsz7 : (v66.setCell ⟨v2.heap.size, 1, none⟩ (.slice (some ⟨gg, 0, none⟩) (RR.length + 1) cap)).heap.size = v66.heap.size := size_set _ _ _
      have nd0 := cell_set2 (o' := 1) d0 (by omega : w.heap.size ≠ v2.heap.size) (.slice (some ⟨gg, 0, none⟩) (RR.length + 1) cap)
      have nd1 := cell_set2 (o' := 1) d1 (by omega : bl ≠ v2.heap.size) (.slice (some ⟨gg, 0, none⟩) (RR.length + 1) cap)
      have nd2 := cell_set2 (o' := 1) d2 (by omega : w.heap.size + 1 ≠ v2.heap.size) (.slice (some ⟨gg, 0, none⟩) (RR.length + 1) cap)
      have nd3 := cell_set2 (o' := 1) d3 (by omega : bm ≠ v2.heap.size) (.slice (some ⟨gg, 0, none⟩) (RR.length + 1) cap)
      clear d0 d1 d2 d3 y0 y1 yf
      generalize hwn : (v66.setCell ⟨v2.heap.size, 1, none⟩ (.slice (some ⟨gg, 0, none⟩) (RR.length + 1) cap)) = v67 at *
      clear hwn
      have d0 := nd0
      have d1 := nd1
      have d2 := nd2
      have d3 := nd3
      clear nd0 nd1 nd2 nd3
      refine hK.out _ _ ?_ (fun hHeld => ?_)
      · exact ⟨d0, d1, d2, d3⟩
      clear hK K
      try simp only [List.getElem_toArray, List.getElem_cons_succ, List.getElem_cons_zero, Act.put, List.setIfInBounds_toArray, List.set_cons_zero, List.set_cons_succ]
      refine wpAnyH_done (by kernel_rfl) ?_ _
      refine NoPanic.normal ?_
      clear hHeld
      have HOz2 := Lib.hid (show OutL v2.heap.size v2.heap.size v67.heap.size v67 (.slice (some ⟨gg, 0, none⟩) (RR.length + 1) cap) (vs ++ [.slice (some ⟨g3, 0, none⟩) (l.length + m.length) q3]) (css ++ [cs1 ++ cs2]) (RR ++ [L1 ++ L2]) from by rw [hsz7]; exact HOz.out)
      go_wp2_with fail
      go_roundw
      case rel => exact ⟨k + 1, _, _, _, by omega, by go_num, by rw [HPA.out], by rw [HPB.out], by rw [HTK.out]; exact HOz2.out, Lib.hid ⟨z0, z1, zf⟩, HBz.out, by omega, Lib.hid (fun i hi => (Nat.lt_or_ge i k).elim (HIV.out i) (fun h9 => (Nat.le_antisymm h9 (Nat.le_of_lt_succ hi)) ▸ HGk.out))⟩
      case measure => simp [intOf]; omega
    · obtain rfl : k = ls.length := by omega
      have y0 := HCe.out.1
      have y1 := HCe.out.2.1
      have hol := HOo.out.toL (by omega)
      have HJl := Lib.hid (jnT_len ls ms ls.length)
      generalize jnT ls ms ls.length = J at *
      obtain ⟨pv, qv, hvv, _, _, _⟩ := (show OwnL v2.heap.size wr.heap.size wr v J from ⟨_, _, hol⟩).slice
      subst hvv
      have HO4 := Lib.hid (show OwnL v2.heap.size wr.heap.size wr (.slice pv J.length qv) J from ⟨_, _, hol⟩)
      clear hol HCe HOo
      go_wp2_with fail
      refine bodyPost_ret (v := .tuple #[.agg #[.int .i64 n, .slice pv J.length qv], .bool true]) (by simp [results, Try.results23, go_sem, x2_0, x2_1, f2_0, f2_1]) rfl ⟨_, rfl, ?_, ?_⟩
      · simp only [size_set]; exact ((HO4.out.set (by show w.heap.size + 2 < _; omega) _).set (by show w.heap.size + 2 < _; omega) _).mono (by omega) (Nat.le_refl _)
      · exact (HBw.out.setCell (by simp; omega) _).setCell (by simp; omega) _
set_option maxRecDepth 100000 in
set_option maxHeartbeats 16000000 in
theorem spec_jn_out (a : Option Addr) (ls : List (List (List Int × Int))) (c : Nat) (n : Int) (a' : Option Addr) (ms : List (List (List Int × Int))) (c' : Nat) (n' : Int) (w : World) (hr : ReadsL w a ls) (hq : ReadsL w a' ms) (hn : ls.length ≤ 1048576) (hk : ms.length ≤ 1048576) (hm : ∀ x ∈ ls, x.length ≤ 1048576 ∧ ∀ y ∈ x, y.1.length ≤ 1048576) (hp : ∀ x ∈ ms, x.length ≤ 1048576 ∧ ∀ y ∈ x, y.1.length ≤ 1048576) (h : netB n ls = true ∧ netB n' ms = true ∧ n = n' ∧ ls.length = ms.length ∧ fitJ ls ms = false) :
    Calls Try.prog 23 #[.agg #[.int .i64 n, .slice a ls.length c], .agg #[.int .i64 n', .slice a' ms.length c']] w (RetTB [] 0 false w) := by
  obtain ⟨i0, hi, hz0, hz1, hz2⟩ := info_parts infoP
  obtain ⟨j0, hj, hjz0, hjz1, hjz2⟩ := info_parts infoJ
  have Hhr := Lib.hid hr
  have Hhq := Lib.hid hq
  have Hhm := Lib.hid hm
  have Hhp := Lib.hid hp
  clear hr hq hm hp
  obtain ⟨h0, h1, hnn, hll, hfit⟩ := h
  subst hnn
  have HN0 := Lib.hid h0
  have HN1 := Lib.hid h1
  have HL6 := Lib.hid (show 1 ≤ ls.length ∧ ls.length ≤ 6 from net_len h0)
  have HG1 := Lib.hid (show ∀ i, i < ls.length → (1 ≤ (ls.getD i []).length ∧ (ls.getD i []).length ≤ 4) ∧ (1 ≤ (ms.getD i []).length ∧ (ms.getD i []).length ≤ 4) from fun i hi => ⟨net_lay h0 i hi, net_lay h1 i (by omega)⟩)
  have HW1 := Lib.hid (show ∀ i, i < ls.length → ∀ k, k < (ls.getD i []).length → 1 ≤ ((ls.getD i []).getD k ([], 0)).1.length ∧ ((ls.getD i []).getD k ([], 0)).1.length ≤ 100 from fun i hi k hk => by
    have := (planeB_iff _ _).1 ((gateB_iff _ _).1 (net_gate h0 i hi k hk)).1
    omega)
  have HW2 := Lib.hid (show ∀ i, i < ls.length → ∀ k, k < (ms.getD i []).length → 1 ≤ ((ms.getD i []).getD k ([], 0)).1.length ∧ ((ms.getD i []).getD k ([], 0)).1.length ≤ 100 from fun i hi k hk => by
    have := (planeB_iff _ _).1 ((gateB_iff _ _).1 (net_gate h1 i (by omega) k hk)).1
    omega)
  have HPV := Lib.hid (show ∀ i, i ≤ ls.length → prv ls i ≤ 4 ∧ prv ms i ≤ 4 from fun i hi => ⟨prv_le h0 i hi, prv_le h1 i (by omega)⟩)
  have HLL := Lib.hid hll
  have g4 : ((ls.length : Int) != (ms.length : Int)) = false := by simp; omega
  have HFI := Lib.hid hfit
  clear h0 h1 hll hfit
  go_enter Try.func23, Try.ntmps23
  obtain ⟨wb1, hw1⟩ : ∃ wb1 : World, wb1 = w.alloc (.cells #[.int .i64 n, .slice a ls.length c] 44) := ⟨_, rfl⟩
  obtain ⟨wb2, hw2⟩ : ∃ wb2 : World, wb2 = wb1.alloc (.cells #[.int .i64 n, .slice a' ms.length c'] 44) := ⟨_, rfl⟩
  obtain ⟨wb3, hw3⟩ : ∃ wb3 : World, wb3 = wb2.alloc (.cells #[.int .i64 0, .slice none 0 0] 44) := ⟨_, rfl⟩
  have z1 : wb1.heap.size = w.heap.size + 1 := by rw [hw1]; simp
  have z2 : wb2.heap.size = w.heap.size + 2 := by rw [hw2]; simp; omega
  have z3 : wb3.heap.size = w.heap.size + 3 := by rw [hw3]; simp; omega
  have x0_0 := (by rw [hw3]; exact cell_old _ (by rw [hw2]; exact cell_old _ (by rw [hw1]; exact cell_new _ _ _ rfl rfl : wb1.cell? ⟨w.heap.size, 0, none⟩ = some (.int .i64 n)) : wb2.cell? ⟨w.heap.size, 0, none⟩ = some (.int .i64 n)) : wb3.cell? ⟨w.heap.size, 0, none⟩ = some (.int .i64 n))
  have x0_1 := (by rw [hw3]; exact cell_old _ (by rw [hw2]; exact cell_old _ (by rw [hw1]; exact cell_new _ _ _ rfl rfl : wb1.cell? ⟨w.heap.size, 1, none⟩ = some (.slice a ls.length c)) : wb2.cell? ⟨w.heap.size, 1, none⟩ = some (.slice a ls.length c)) : wb3.cell? ⟨w.heap.size, 1, none⟩ = some (.slice a ls.length c))
  have x1_0 := (by rw [hw3]; exact cell_old _ (by rw [hw2]; exact cell_new _ _ _ z1.symm rfl : wb2.cell? ⟨w.heap.size + 1, 0, none⟩ = some (.int .i64 n)) : wb3.cell? ⟨w.heap.size + 1, 0, none⟩ = some (.int .i64 n))
  have x1_1 := (by rw [hw3]; exact cell_old _ (by rw [hw2]; exact cell_new _ _ _ z1.symm rfl : wb2.cell? ⟨w.heap.size + 1, 1, none⟩ = some (.slice a' ms.length c')) : wb3.cell? ⟨w.heap.size + 1, 1, none⟩ = some (.slice a' ms.length c'))
  have x2_0 := (by rw [hw3]; exact cell_new _ _ _ z2.symm rfl : wb3.cell? ⟨w.heap.size + 2, 0, none⟩ = some (.int .i64 0))
  have x2_1 := (by rw [hw3]; exact cell_new _ _ _ z2.symm rfl : wb3.cell? ⟨w.heap.size + 2, 1, none⟩ = some (.slice none 0 0))
  have HB0 := Lib.hid (show Below w.heap.size w wb3 by rw [hw3]; exact (show Below w.heap.size w wb2 by rw [hw2]; exact (show Below w.heap.size w wb1 by rw [hw1]; exact (Below.refl w.heap.size w).alloc (Nat.le_refl _) _).alloc (by omega) _).alloc (by omega) _)
  have s3 : w.heap.size + 3 ≤ wb3.heap.size := by omega
  have f2_0 := (by rw [hw3]; exact fro_new _ _ _ z2.symm : wb3.frozen? ⟨w.heap.size + 2, 0, none⟩ = false)
  have f2_1 := (by rw [hw3]; exact fro_new _ _ _ z2.symm : wb3.frozen? ⟨w.heap.size + 2, 1, none⟩ = false)
  have HZ3 := Lib.hid z3
  clear z1 z2 z3
  go_wp2_with fail
  rw [← hw1, ← hw2, ← hw3]
  clear hw1 hw2 hw3
  have HBwb3 := HB0
  refine (netb.spec_good a ls c n wb3 (Hhr.out.below HBwb3.out) hn Hhm.out true HN0).mono ?_
  rintro e' v1 ⟨rfl, hb⟩
  replace x0_0 := cell_below hb x0_0 (by omega)
  replace x0_1 := cell_below hb x0_1 (by omega)
  replace x1_0 := cell_below hb x1_0 (by omega)
  replace x1_1 := cell_below hb x1_1 (by omega)
  replace x2_0 := cell_below hb x2_0 (by omega)
  replace x2_1 := cell_below hb x2_1 (by omega)
  replace f2_0 := fro_below hb f2_0 (by omega)
  replace f2_1 := fro_below hb f2_1 (by omega)
  have HBv1 := Lib.hid (HBwb3.out.trans (hb.mono HBwb3.out.size))
  have sv1 := hb.size
  clear hb
  go_wp2_with fail
  refine (netb.spec_good a' ms c' n v1 (Hhq.out.below HBv1.out) hk Hhp.out true HN1).mono ?_
  rintro e' v2 ⟨rfl, hb⟩
  replace x0_0 := cell_below hb x0_0 (by omega)
  replace x0_1 := cell_below hb x0_1 (by omega)
  replace x1_0 := cell_below hb x1_0 (by omega)
  replace x1_1 := cell_below hb x1_1 (by omega)
  replace x2_0 := cell_below hb x2_0 (by omega)
  replace x2_1 := cell_below hb x2_1 (by omega)
  replace f2_0 := fro_below hb f2_0 (by omega)
  replace f2_1 := fro_below hb f2_1 (by omega)
  have HBv2 := Lib.hid (HBv1.out.trans (hb.mono HBv1.out.size))
  have sv2 := hb.size
  clear hb
  have hw3 : w.heap.size + 2 < v2.heap.size := by omega
  have q0 : (v2.alloc (.cells #[.int .i64 n, .slice none 0 0] 44)).cell? ⟨v2.heap.size, 0, none⟩ = some (.int .i64 n) := cell_new _ _ _ rfl rfl
  have q1 : (v2.alloc (.cells #[.int .i64 n, .slice none 0 0] 44)).cell? ⟨v2.heap.size, 1, none⟩ = some (.slice none 0 0) := cell_new _ _ _ rfl rfl
  have qf : (v2.alloc (.cells #[.int .i64 n, .slice none 0 0] 44)).frozen? ⟨v2.heap.size, 1, none⟩ = false := fro_new _ _ _ rfl
  have hb0 := below_alloc v2 (.cells #[.int .i64 n, .slice none 0 0] 44)
  have hlt0 := size_alloc' v2 (.cells #[.int .i64 n, .slice none 0 0] 44)
  have xa := cell_below hb0 x0_1 (by omega)
  have HO0 := Lib.hid (show OutL v2.heap.size v2.heap.size (v2.alloc (.cells #[.int .i64 n, .slice none 0 0] 44)).heap.size (v2.alloc (.cells #[.int .i64 n, .slice none 0 0] 44)) (.slice none 0 0) [] [] [] from ⟨World.ownsRow_nil _ _ _ _, fun g e => by simp [Value.ownBlock] at e, LaysOf.nil _ _ _⟩)
  go_wp2_with fail
  go_loopw [7, 8, 9] (fun fa fb i wr => ∃ (k : Nat) (v : Value) (vs : List Value) (css : List (List Value)), k ≤ ls.length ∧ i = .int .i64 k ∧ fa = .int .i64 (prv ls k : Nat) ∧ fb = .int .i64 (prv ms k : Nat) ∧ OutL v2.heap.size v2.heap.size wr.heap.size wr v vs css (jnT ls ms k) ∧ Hid (wr.cell? ⟨v2.heap.size, 0, none⟩ = some (.int .i64 n) ∧ wr.cell? ⟨v2.heap.size, 1, none⟩ = some v ∧ wr.frozen? ⟨v2.heap.size, 1, none⟩ = false) ∧ Below v2.heap.size v2 wr ∧ v2.heap.size < wr.heap.size ∧ Hid (∀ i, i < k → (ls.getD i []).length + (ms.getD i []).length ≤ 4)) (fun _ _ i _ => ls.length - (intOf i).toNat)
  case atStart => exact ⟨0, _, [], [], Nat.zero_le _, rfl, rfl, rfl, HO0.out, Lib.hid ⟨q0, q1, qf⟩, hb0, hlt0, Lib.hid (fun i hi => by omega)⟩
  case round =>
    obtain ⟨k, v, vs, css, hk9, rfl, rfl, rfl, hown, HCe, hbel, hlt2, HIV⟩ := hrel
    have hsz := hbel.size
    have HOo := Lib.hid hown
    have HBl := Lib.hid hbel
    have HBw := Lib.hid (HBv2.out.trans (hbel.mono (by omega : w.heap.size ≤ v2.heap.size)))
    replace x0_0 := cell_below hbel x0_0 (by omega)
    replace x0_1 := cell_below hbel x0_1 (by omega)
    replace x1_0 := cell_below hbel x1_0 (by omega)
    replace x1_1 := cell_below hbel x1_1 (by omega)
    replace x2_0 := cell_below hbel x2_0 (by omega)
    replace x2_1 := cell_below hbel x2_1 (by omega)
    replace f2_0 := fro_below hbel f2_0 (by omega)
    replace f2_1 := fro_below hbel f2_1 (by omega)
    clear hb0 hown hbel xa q0 q1 qf hlt0 HO0
    by_cases hlt : k < ls.length
    · obtain ⟨bl, off, pl, cl, hab, hbl, hcl, _, hlay⟩ := Hhr.out.at hlt
      obtain ⟨bm, om, pm, cm, hab', hbm, hcm, _, hlam⟩ := Hhq.out.at (show k < ms.length by have := HLL.out; omega)
      subst hab
      subst hab'
      have hkm : (k : Int) < (ms.length : Int) := by have := HLL.out; omega
      have hkl : (k : Int) < (ls.length : Int) := by omega
      have hk0 : (0 : Int) ≤ (k : Int) := by omega
      have HTK := Lib.hid (show jnT ls ms (k + 1) = jnT ls ms k ++ [widJ 0 (prv ms k) (ls.getD k []) ++ widJ (prv ls k) 0 (ms.getD k [])] from jnT_succ ls ms k)
      have HTJ := Lib.hid (jnT_len ls ms k)
      have HPA := Lib.hid (prv_succ ls k)
      have HPB := Lib.hid (prv_succ ms k)
      have hg1 := HG1.out k hlt
      have hw1 := HW1.out k hlt
      have hw2 := HW2.out k hlt
      have hpv := HPV.out k (by omega)
      have hk6 := HL6.out
      obtain ⟨l, hl⟩ : ∃ l, l = ls.getD k [] := ⟨_, rfl⟩
      obtain ⟨m, hm9⟩ : ∃ m, m = ms.getD k [] := ⟨_, rfl⟩
      rw [← hl] at hcl hlay hg1 hw1 HTK HPA
      rw [← hm9] at hcm hlam hg1 hw2 HTK HPB
      have HLk := Lib.hid hl.symm
      have HMk := Lib.hid hm9.symm
      clear hl hm9
      generalize prv ls k = px at *
      generalize prv ms k = py at *
      have HWA := Lib.hid (fun (wa : World) (hb : Below wr.heap.size wr wa) => (show Calls Try.prog 87 #[.slice pl l.length cl, .int .i64 0, .int .i64 py] wa _ from wids.spec_wide 0 py pl l cl wa (by omega) (by omega) (hlay.below (HBw.out.trans (hb.mono HBw.out.size))) (by omega) hw1))
      have HWB := Lib.hid (fun (wa : World) (hb : Below wr.heap.size wr wa) => (show Calls Try.prog 87 #[.slice pm m.length cm, .int .i64 px, .int .i64 0] wa _ from wids.spec_wide px 0 pm m cm wa (by omega) (by omega) (hlam.below (HBw.out.trans (hb.mono HBw.out.size))) (by omega) hw2))
      have d0 := x0_1
      have d1 := cell_below HBw.out hcl hbl
      have d2 := x1_1
      have d3 := cell_below HBw.out hcm hbm
      have y0 := HCe.out.1
      have y1 := HCe.out.2.1
      have yf := HCe.out.2.2
      have HRl := Lib.hid (show (jnT ls ms k).length ≤ 6 by rw [jnT_len]; omega)
      obtain ⟨L1, hL1⟩ : ∃ L1, widJ 0 py l = L1 := ⟨_, rfl⟩
      obtain ⟨L2, hL2⟩ : ∃ L2, widJ px 0 m = L2 := ⟨_, rfl⟩
      have e1 : L1.length = l.length := by rw [← hL1, wid_len]
      have e2 : L2.length = m.length := by rw [← hL2, wid_len]
      rw [hL1, hL2] at HTK
      have HLa := Lib.hid hL1
      have HLb := Lib.hid hL2
      clear hL1 hL2 hlay hlam hw1 hw2 hcl hcm HCe
      generalize hRR : jnT ls ms k = RR at *
      have eS : IntKind.i64.wrap ((l.length : Int) + (m.length : Int)) = (l.length : Int) + (m.length : Int) := IntWalk.i64_in _ (by omega)
      by_cases h44 : 4 < l.length + m.length
      · have g6 : decide ((4 : Int) < (l.length : Int) + (m.length : Int)) = true := decide_eq_true (by omega)
        go_wp2_with fail
        refine wp_region_noPanic ?_
        refine wp_region_held_drew (S := fun w' => w'.cell? ⟨w.heap.size, 1, none⟩ = some (.slice (some ⟨bl, off, none⟩) ls.length c) ∧ w'.cell? ⟨bl, off + k, none⟩ = some (.slice pl l.length cl) ∧ w'.cell? ⟨w.heap.size + 1, 1, none⟩ = some (.slice (some ⟨bm, om, none⟩) ms.length c') ∧ w'.cell? ⟨bm, om + k, none⟩ = some (.slice pm m.length cm)) (by kernel_rfl) ?_ (fun hHeld => ?_)
        · exact ⟨d0, d1, d2, d3⟩
        have hb9 : Below wr.heap.size wr wr.drew := (Below.refl _ _).drew
        have HBd := Lib.hid hb9
        have zd0 := cell_below hb9 d0 (by omega)
        have zd1 := cell_below hb9 d1 (by omega)
        have zd2 := cell_below hb9 d2 (by omega)
        have zd3 := cell_below hb9 d3 (by omega)
        have zy0 := cell_below hb9 y0 (by omega)
        have zy1 := cell_below hb9 y1 (by omega)
        have zyf := fro_below hb9 yf (by omega)
        have rx0_0 := cell_below hb9 x0_0 (by omega)
        have rx0_1 := cell_below hb9 x0_1 (by omega)
        have rx1_0 := cell_below hb9 x1_0 (by omega)
        have rx1_1 := cell_below hb9 x1_1 (by omega)
        have rx2_0 := cell_below hb9 x2_0 (by omega)
        have rx2_1 := cell_below hb9 x2_1 (by omega)
        have rf2_0 := fro_below hb9 f2_0 (by omega)
        have rf2_1 := fro_below hb9 f2_1 (by omega)
        clear hb9
        generalize wr.drew = wd at *
        refine wpAnyH_take (i := 0) (v := ?_) rfl (by kernel_rfl) (by kernel_rfl) (by kernel_rfl) (fun _ _ _ h => h) (Or.inl ⟨by rfl, ?_⟩) (by assumption) ?_
        rotate_left
        · intro w9 hSw; (try dsimp only at hSw); go_simp; try with_reducible rfl
        try simp only [List.getElem_toArray, List.getElem_cons_succ, List.getElem_cons_zero, Act.put, List.setIfInBounds_toArray, List.set_cons_zero, List.set_cons_succ]
        refine wpAnyH_take (i := 1) (v := ?_) rfl (by kernel_rfl) (by kernel_rfl) (by kernel_rfl) (fun _ _ _ h => h) (Or.inl ⟨by rfl, ?_⟩) (by assumption) ?_
        rotate_left
        · intro w9 hSw; (try dsimp only at hSw); go_simp; try with_reducible rfl
        try simp only [List.getElem_toArray, List.getElem_cons_succ, List.getElem_cons_zero, Act.put, List.setIfInBounds_toArray, List.set_cons_zero, List.set_cons_succ]
        refine wpAnyH_take (i := 2) (v := ?_) rfl (by kernel_rfl) (by kernel_rfl) (by kernel_rfl) (fun _ _ _ h => h) (Or.inl ⟨by rfl, ?_⟩) (by assumption) ?_
        rotate_left
        · intro w9 hSw; (try dsimp only at hSw); go_simp; try with_reducible rfl
        try simp only [List.getElem_toArray, List.getElem_cons_succ, List.getElem_cons_zero, Act.put, List.setIfInBounds_toArray, List.set_cons_zero, List.set_cons_succ]
        refine wpAnyH_take (i := 3) (v := ?_) rfl (by kernel_rfl) (by kernel_rfl) (by kernel_rfl) (fun _ _ _ h => h) (Or.inl ⟨by rfl, ?_⟩) (by assumption) ?_
        rotate_left
        · intro w9 hSw; (try dsimp only at hSw); go_simp; try with_reducible rfl
        try simp only [List.getElem_toArray, List.getElem_cons_succ, List.getElem_cons_zero, Act.put, List.setIfInBounds_toArray, List.set_cons_zero, List.set_cons_succ]
        refine wpAnyH_take (i := 4) (v := ?_) rfl (by kernel_rfl) (by kernel_rfl) (by kernel_rfl) (fun _ _ _ h => h) (Or.inl ⟨by rfl, ?_⟩) (by assumption) ?_
        rotate_left
        · intro w9 hSw; (try dsimp only at hSw); go_simp; try with_reducible rfl
        try simp only [List.getElem_toArray, List.getElem_cons_succ, List.getElem_cons_zero, Act.put, List.setIfInBounds_toArray, List.set_cons_zero, List.set_cons_succ]
        refine wpAnyH_take (i := 5) (v := ?_) rfl (by kernel_rfl) (by kernel_rfl) (by kernel_rfl) (fun _ _ _ h => h) (Or.inl ⟨by rfl, ?_⟩) (by assumption) ?_
        rotate_left
        · intro w9 hSw; (try dsimp only at hSw); go_simp; try with_reducible rfl
        try simp only [List.getElem_toArray, List.getElem_cons_succ, List.getElem_cons_zero, Act.put, List.setIfInBounds_toArray, List.set_cons_zero, List.set_cons_succ]
        refine wpAnyH_take (i := 6) (v := ?_) rfl (by kernel_rfl) (by kernel_rfl) (by kernel_rfl) (fun _ _ _ h => h) (Or.inl ⟨by rfl, ?_⟩) (by assumption) ?_
        rotate_left
        · intro w9 hSw; (try dsimp only at hSw); go_simp; try with_reducible rfl
        try simp only [List.getElem_toArray, List.getElem_cons_succ, List.getElem_cons_zero, Act.put, List.setIfInBounds_toArray, List.set_cons_zero, List.set_cons_succ]
        refine wpAnyH_take (i := 7) (v := ?_) rfl (by kernel_rfl) (by kernel_rfl) (by kernel_rfl) (fun _ _ _ h => h) (Or.inl ⟨by rfl, ?_⟩) (by assumption) ?_
        rotate_left
        · intro w9 hSw; (try dsimp only at hSw); go_simp; try with_reducible rfl
        try simp only [List.getElem_toArray, List.getElem_cons_succ, List.getElem_cons_zero, Act.put, List.setIfInBounds_toArray, List.set_cons_zero, List.set_cons_succ]
        refine wpAnyH_take (i := 8) (v := ?_) rfl (by kernel_rfl) (by kernel_rfl) (by kernel_rfl) (fun _ _ _ h => h) (Or.inl ⟨by rfl, ?_⟩) (by assumption) ?_
        rotate_left
        · intro w9 hSw; (try dsimp only at hSw); go_simp; try with_reducible rfl
        try simp only [List.getElem_toArray, List.getElem_cons_succ, List.getElem_cons_zero, Act.put, List.setIfInBounds_toArray, List.set_cons_zero, List.set_cons_succ]
        refine wpAnyH_take (i := 9) (v := ?_) rfl (by kernel_rfl) (by kernel_rfl) (by kernel_rfl) (fun _ _ _ h => h) (Or.inl ⟨by rfl, ?_⟩) (by assumption) ?_
        rotate_left
        · intro w9 hSw; (try dsimp only at hSw); go_simp; try with_reducible rfl
        try simp only [List.getElem_toArray, List.getElem_cons_succ, List.getElem_cons_zero, Act.put, List.setIfInBounds_toArray, List.set_cons_zero, List.set_cons_succ]
        refine wpAnyH_take (i := 10) (v := ?_) rfl (by kernel_rfl) (by kernel_rfl) (by kernel_rfl) (fun _ _ _ h => h) (Or.inl ⟨by rfl, ?_⟩) (by assumption) ?_
        rotate_left
        · intro w9 hSw; (try dsimp only at hSw); go_simp; try with_reducible rfl
        try simp only [List.getElem_toArray, List.getElem_cons_succ, List.getElem_cons_zero, Act.put, List.setIfInBounds_toArray, List.set_cons_zero, List.set_cons_succ]
        refine wpAnyH_take (i := 11) (v := ?_) rfl (by kernel_rfl) (by kernel_rfl) (by kernel_rfl) (fun _ _ _ h => h) (Or.inl ⟨by rfl, ?_⟩) (by assumption) ?_
        rotate_left
        · intro w9 hSw; (try dsimp only at hSw); go_simp; try with_reducible rfl
        try simp only [List.getElem_toArray, List.getElem_cons_succ, List.getElem_cons_zero, Act.put, List.setIfInBounds_toArray, List.set_cons_zero, List.set_cons_succ]
        refine wpAnyH_take (i := 12) (v := ?_) rfl (by kernel_rfl) (by kernel_rfl) (by kernel_rfl) (fun _ _ _ h => h) (Or.inl ⟨by rfl, ?_⟩) (by assumption) ?_
        rotate_left
        · intro w9 hSw; (try dsimp only at hSw); go_simp; try with_reducible rfl
        try simp only [List.getElem_toArray, List.getElem_cons_succ, List.getElem_cons_zero, Act.put, List.setIfInBounds_toArray, List.set_cons_zero, List.set_cons_succ]
        refine wpAnyH_take (i := 13) (v := ?_) rfl (by kernel_rfl) (by kernel_rfl) (by kernel_rfl) (fun _ _ _ h => h) (Or.inl ⟨by rfl, ?_⟩) (by assumption) ?_
        rotate_left
        · intro w9 hSw; (try dsimp only at hSw); go_simp; try with_reducible rfl
        try simp only [List.getElem_toArray, List.getElem_cons_succ, List.getElem_cons_zero, Act.put, List.setIfInBounds_toArray, List.set_cons_zero, List.set_cons_succ]
        refine wpAnyH_done (by kernel_rfl) ?_ _
        refine NoPanic.normal ?_
        clear d0 d1 d2 d3 y0 y1 yf x0_0 x0_1 x1_0 x1_1 x2_0 x2_1 f2_0 f2_1
        have d0 := zd0
        have d1 := zd1
        have d2 := zd2
        have d3 := zd3
        have y0 := zy0
        have y1 := zy1
        have yf := zyf
        have x0_0 := rx0_0
        have x0_1 := rx0_1
        have x1_0 := rx1_0
        have x1_1 := rx1_1
        have x2_0 := rx2_0
        have x2_1 := rx2_1
        have f2_0 := rf2_0
        have f2_1 := rf2_1
        clear zd0 zd1 zd2 zd3 zy0 zy1 zyf rx0_0 rx0_1 rx1_0 rx1_1 rx2_0 rx2_1 rf2_0 rf2_1
        clear hHeld
        go_wp2_with fail
        have HBf := Lib.hid (HBw.out.trans (HBd.out.mono HBw.out.size))
        refine bodyPost_ret (v := .tuple #[.agg #[.int .i64 0, .slice none 0 0], .bool false]) (by simp [results, Try.results23, go_sem, x2_0, x2_1, f2_0, f2_1]) rfl ⟨_, rfl, ?_, ?_⟩
        · exact OwnL.nil _ _ _
        · exact ((HBf.out.setCell (by simp; omega) _).setCell (by simp; omega) _)
      replace h44 := Nat.le_of_not_lt h44
      have g6 : decide ((4 : Int) < (l.length : Int) + (m.length : Int)) = false := decide_eq_false (by omega)
      have HGk := Lib.hid (show (ls.getD k []).length + (ms.getD k []).length ≤ 4 by rw [HLk.out, HMk.out]; exact h44)
      go_wp2_with fail
      refine wp_region_noPanic ?_
      refine wp_region_held_drew (S := fun w' => w'.cell? ⟨w.heap.size, 1, none⟩ = some (.slice (some ⟨bl, off, none⟩) ls.length c) ∧ w'.cell? ⟨bl, off + k, none⟩ = some (.slice pl l.length cl) ∧ w'.cell? ⟨w.heap.size + 1, 1, none⟩ = some (.slice (some ⟨bm, om, none⟩) ms.length c') ∧ w'.cell? ⟨bm, om + k, none⟩ = some (.slice pm m.length cm)) (by kernel_rfl) ?_ (fun hHeld => ?_)
      · exact ⟨d0, d1, d2, d3⟩
      have hb9 : Below wr.heap.size wr wr.drew := (Below.refl _ _).drew
      have HBd := Lib.hid hb9
      have zd0 := cell_below hb9 d0 (by omega)
      have zd1 := cell_below hb9 d1 (by omega)
      have zd2 := cell_below hb9 d2 (by omega)
      have zd3 := cell_below hb9 d3 (by omega)
      have zy0 := cell_below hb9 y0 (by omega)
      have zy1 := cell_below hb9 y1 (by omega)
      have zyf := fro_below hb9 yf (by omega)
      have rx0_0 := cell_below hb9 x0_0 (by omega)
      have rx0_1 := cell_below hb9 x0_1 (by omega)
      have rx1_0 := cell_below hb9 x1_0 (by omega)
      have rx1_1 := cell_below hb9 x1_1 (by omega)
      have rx2_0 := cell_below hb9 x2_0 (by omega)
      have rx2_1 := cell_below hb9 x2_1 (by omega)
      have rf2_0 := fro_below hb9 f2_0 (by omega)
      have rf2_1 := fro_below hb9 f2_1 (by omega)
      clear hb9
      generalize wr.drew = wd at *
      refine wpAnyH_take (i := 0) (v := ?_) rfl (by kernel_rfl) (by kernel_rfl) (by kernel_rfl) (fun _ _ _ h => h) (Or.inl ⟨by rfl, ?_⟩) (by assumption) ?_
      rotate_left
      · intro w9 hSw; (try dsimp only at hSw); go_simp; try with_reducible rfl
      try simp only [List.getElem_toArray, List.getElem_cons_succ, List.getElem_cons_zero, Act.put, List.setIfInBounds_toArray, List.set_cons_zero, List.set_cons_succ]
      refine wpAnyH_take (i := 1) (v := ?_) rfl (by kernel_rfl) (by kernel_rfl) (by kernel_rfl) (fun _ _ _ h => h) (Or.inl ⟨by rfl, ?_⟩) (by assumption) ?_
      rotate_left
      · intro w9 hSw; (try dsimp only at hSw); go_simp; try with_reducible rfl
      try simp only [List.getElem_toArray, List.getElem_cons_succ, List.getElem_cons_zero, Act.put, List.setIfInBounds_toArray, List.set_cons_zero, List.set_cons_succ]
      refine wpAnyH_take (i := 2) (v := ?_) rfl (by kernel_rfl) (by kernel_rfl) (by kernel_rfl) (fun _ _ _ h => h) (Or.inl ⟨by rfl, ?_⟩) (by assumption) ?_
      rotate_left
      · intro w9 hSw; (try dsimp only at hSw); go_simp; try with_reducible rfl
      try simp only [List.getElem_toArray, List.getElem_cons_succ, List.getElem_cons_zero, Act.put, List.setIfInBounds_toArray, List.set_cons_zero, List.set_cons_succ]
      refine wpAnyH_take (i := 3) (v := ?_) rfl (by kernel_rfl) (by kernel_rfl) (by kernel_rfl) (fun _ _ _ h => h) (Or.inl ⟨by rfl, ?_⟩) (by assumption) ?_
      rotate_left
      · intro w9 hSw; (try dsimp only at hSw); go_simp; try with_reducible rfl
      try simp only [List.getElem_toArray, List.getElem_cons_succ, List.getElem_cons_zero, Act.put, List.setIfInBounds_toArray, List.set_cons_zero, List.set_cons_succ]
      refine wpAnyH_take (i := 4) (v := ?_) rfl (by kernel_rfl) (by kernel_rfl) (by kernel_rfl) (fun _ _ _ h => h) (Or.inl ⟨by rfl, ?_⟩) (by assumption) ?_
      rotate_left
      · intro w9 hSw; (try dsimp only at hSw); go_simp; try with_reducible rfl
      try simp only [List.getElem_toArray, List.getElem_cons_succ, List.getElem_cons_zero, Act.put, List.setIfInBounds_toArray, List.set_cons_zero, List.set_cons_succ]
      refine wpAnyH_take (i := 5) (v := ?_) rfl (by kernel_rfl) (by kernel_rfl) (by kernel_rfl) (fun _ _ _ h => h) (Or.inl ⟨by rfl, ?_⟩) (by assumption) ?_
      rotate_left
      · intro w9 hSw; (try dsimp only at hSw); go_simp; try with_reducible rfl
      try simp only [List.getElem_toArray, List.getElem_cons_succ, List.getElem_cons_zero, Act.put, List.setIfInBounds_toArray, List.set_cons_zero, List.set_cons_succ]
      refine wpAnyH_take (i := 6) (v := ?_) rfl (by kernel_rfl) (by kernel_rfl) (by kernel_rfl) (fun _ _ _ h => h) (Or.inl ⟨by rfl, ?_⟩) (by assumption) ?_
      rotate_left
      · intro w9 hSw; (try dsimp only at hSw); go_simp; try with_reducible rfl
      try simp only [List.getElem_toArray, List.getElem_cons_succ, List.getElem_cons_zero, Act.put, List.setIfInBounds_toArray, List.set_cons_zero, List.set_cons_succ]
      refine wpAnyH_take (i := 7) (v := ?_) rfl (by kernel_rfl) (by kernel_rfl) (by kernel_rfl) (fun _ _ _ h => h) (Or.inl ⟨by rfl, ?_⟩) (by assumption) ?_
      rotate_left
      · intro w9 hSw; (try dsimp only at hSw); go_simp; try with_reducible rfl
      try simp only [List.getElem_toArray, List.getElem_cons_succ, List.getElem_cons_zero, Act.put, List.setIfInBounds_toArray, List.set_cons_zero, List.set_cons_succ]
      refine wpAnyH_take (i := 8) (v := ?_) rfl (by kernel_rfl) (by kernel_rfl) (by kernel_rfl) (fun _ _ _ h => h) (Or.inl ⟨by rfl, ?_⟩) (by assumption) ?_
      rotate_left
      · intro w9 hSw; (try dsimp only at hSw); go_simp; try with_reducible rfl
      try simp only [List.getElem_toArray, List.getElem_cons_succ, List.getElem_cons_zero, Act.put, List.setIfInBounds_toArray, List.set_cons_zero, List.set_cons_succ]
      refine wpAnyH_take (i := 9) (v := ?_) rfl (by kernel_rfl) (by kernel_rfl) (by kernel_rfl) (fun _ _ _ h => h) (Or.inl ⟨by rfl, ?_⟩) (by assumption) ?_
      rotate_left
      · intro w9 hSw; (try dsimp only at hSw); go_simp; try with_reducible rfl
      try simp only [List.getElem_toArray, List.getElem_cons_succ, List.getElem_cons_zero, Act.put, List.setIfInBounds_toArray, List.set_cons_zero, List.set_cons_succ]
      refine wpAnyH_take (i := 10) (v := ?_) rfl (by kernel_rfl) (by kernel_rfl) (by kernel_rfl) (fun _ _ _ h => h) (Or.inl ⟨by rfl, ?_⟩) (by assumption) ?_
      rotate_left
      · intro w9 hSw; (try dsimp only at hSw); go_simp; try with_reducible rfl
      try simp only [List.getElem_toArray, List.getElem_cons_succ, List.getElem_cons_zero, Act.put, List.setIfInBounds_toArray, List.set_cons_zero, List.set_cons_succ]
      refine wpAnyH_take (i := 11) (v := ?_) rfl (by kernel_rfl) (by kernel_rfl) (by kernel_rfl) (fun _ _ _ h => h) (Or.inl ⟨by rfl, ?_⟩) (by assumption) ?_
      rotate_left
      · intro w9 hSw; (try dsimp only at hSw); go_simp; try with_reducible rfl
      try simp only [List.getElem_toArray, List.getElem_cons_succ, List.getElem_cons_zero, Act.put, List.setIfInBounds_toArray, List.set_cons_zero, List.set_cons_succ]
      refine wpAnyH_take (i := 12) (v := ?_) rfl (by kernel_rfl) (by kernel_rfl) (by kernel_rfl) (fun _ _ _ h => h) (Or.inl ⟨by rfl, ?_⟩) (by assumption) ?_
      rotate_left
      · intro w9 hSw; (try dsimp only at hSw); go_simp; try with_reducible rfl
      try simp only [List.getElem_toArray, List.getElem_cons_succ, List.getElem_cons_zero, Act.put, List.setIfInBounds_toArray, List.set_cons_zero, List.set_cons_succ]
      refine wpAnyH_take (i := 13) (v := ?_) rfl (by kernel_rfl) (by kernel_rfl) (by kernel_rfl) (fun _ _ _ h => h) (Or.inl ⟨by rfl, ?_⟩) (by assumption) ?_
      rotate_left
      · intro w9 hSw; (try dsimp only at hSw); go_simp; try with_reducible rfl
      try simp only [List.getElem_toArray, List.getElem_cons_succ, List.getElem_cons_zero, Act.put, List.setIfInBounds_toArray, List.set_cons_zero, List.set_cons_succ]
      refine wpAnyH_done (by kernel_rfl) ?_ _
      refine NoPanic.normal ?_
      clear d0 d1 d2 d3 y0 y1 yf x0_0 x0_1 x1_0 x1_1 x2_0 x2_1 f2_0 f2_1
      have d0 := zd0
      have d1 := zd1
      have d2 := zd2
      have d3 := zd3
      have y0 := zy0
      have y1 := zy1
      have yf := zyf
      have x0_0 := rx0_0
      have x0_1 := rx0_1
      have x1_0 := rx1_0
      have x1_1 := rx1_1
      have x2_0 := rx2_0
      have x2_1 := rx2_1
      have f2_0 := rf2_0
      have f2_1 := rf2_1
      clear zd0 zd1 zd2 zd3 zy0 zy1 zyf rx0_0 rx0_1 rx1_0 rx1_1 rx2_0 rx2_1 rf2_0 rf2_1
      clear hHeld
      go_wp2_with fail
      refine wp_region_noPanic ?_
      refine wp_region_held_drew (S := fun w' => w'.cell? ⟨w.heap.size, 1, none⟩ = some (.slice (some ⟨bl, off, none⟩) ls.length c) ∧ w'.cell? ⟨bl, off + k, none⟩ = some (.slice pl l.length cl) ∧ w'.cell? ⟨w.heap.size + 1, 1, none⟩ = some (.slice (some ⟨bm, om, none⟩) ms.length c') ∧ w'.cell? ⟨bm, om + k, none⟩ = some (.slice pm m.length cm)) (by kernel_rfl) ?_ (fun hHeld => ?_)
      · exact ⟨d0, d1, d2, d3⟩
      have hb : Below wd.heap.size wd wd.drew := (Below.refl _ _).drew
      generalize hwn : wd.drew = v61 at *
      clear hwn
      have sz61 : wd.heap.size ≤ v61.heap.size := hb.size
      replace yf := fro_keep hb y1 yf
      replace d0 := cell_keep hb d0
      replace d1 := cell_keep hb d1
      replace d2 := cell_keep hb d2
      replace d3 := cell_keep hb d3
      replace y0 := cell_keep hb y0
      replace y1 := cell_keep hb y1
      have HBh61 := Lib.hid (HBd.out.trans (hb.mono (by have := HBd.out.size; omega)))
      clear hb
      refine wpAnyH_take (i := 0) (v := ?_) rfl (by kernel_rfl) (by kernel_rfl) (by kernel_rfl) (fun _ _ _ h => h) (Or.inl ⟨by rfl, ?_⟩) (by assumption) ?_
      rotate_left
      · intro w9 hSw; (try dsimp only at hSw); go_simp; try with_reducible rfl
      try simp only [List.getElem_toArray, List.getElem_cons_succ, List.getElem_cons_zero, Act.put, List.setIfInBounds_toArray, List.set_cons_zero, List.set_cons_succ]
      refine wpAnyH_take (i := 2) (v := ?_) rfl (by kernel_rfl) (by kernel_rfl) (by kernel_rfl) (fun _ _ _ h => h) (Or.inl ⟨by rfl, ?_⟩) (by assumption) ?_
      rotate_left
      · intro w9 hSw; (try dsimp only at hSw); go_simp; try with_reducible rfl
      try simp only [List.getElem_toArray, List.getElem_cons_succ, List.getElem_cons_zero, Act.put, List.setIfInBounds_toArray, List.set_cons_zero, List.set_cons_succ]
      refine wpAnyH_take (i := 3) (v := ?_) rfl (by kernel_rfl) (by kernel_rfl) (by kernel_rfl) (fun _ _ _ h => h) (Or.inl ⟨by rfl, ?_⟩) (by assumption) ?_
      rotate_left
      · intro w9 hSw; (try dsimp only at hSw); go_simp; try with_reducible rfl
      try simp only [List.getElem_toArray, List.getElem_cons_succ, List.getElem_cons_zero, Act.put, List.setIfInBounds_toArray, List.set_cons_zero, List.set_cons_succ]
      refine wpAnyH_take (i := 4) (v := ?_) rfl (by kernel_rfl) (by kernel_rfl) (by kernel_rfl) (fun _ _ _ h => h) (Or.inl ⟨by rfl, ?_⟩) (by assumption) ?_
      rotate_left
      · intro w9 hSw; (try dsimp only at hSw); go_simp; try with_reducible rfl
      try simp only [List.getElem_toArray, List.getElem_cons_succ, List.getElem_cons_zero, Act.put, List.setIfInBounds_toArray, List.set_cons_zero, List.set_cons_succ]
      refine wpAnyH_take (i := 5) (v := ?_) rfl (by kernel_rfl) (by kernel_rfl) (by kernel_rfl) (fun _ _ _ h => h) (Or.inl ⟨by rfl, ?_⟩) (by assumption) ?_
      rotate_left
      · intro w9 hSw; (try dsimp only at hSw); go_simp; try with_reducible rfl
      try simp only [List.getElem_toArray, List.getElem_cons_succ, List.getElem_cons_zero, Act.put, List.setIfInBounds_toArray, List.set_cons_zero, List.set_cons_succ]
      refine wpAnyH_take (i := 6) (v := ?_) rfl (by kernel_rfl) (by kernel_rfl) (by kernel_rfl) (fun _ _ _ h => h) (Or.inl ⟨by rfl, ?_⟩) (by assumption) ?_
      rotate_left
      · intro w9 hSw; (try dsimp only at hSw); go_simp; try with_reducible rfl
      try simp only [List.getElem_toArray, List.getElem_cons_succ, List.getElem_cons_zero, Act.put, List.setIfInBounds_toArray, List.set_cons_zero, List.set_cons_succ]
      refine wpAnyH_take (i := 7) (v := ?_) rfl (by kernel_rfl) (by kernel_rfl) (by kernel_rfl) (fun _ _ _ h => h) (Or.inl ⟨by rfl, ?_⟩) (by assumption) ?_
      rotate_left
      · intro w9 hSw; (try dsimp only at hSw); go_simp; try with_reducible rfl
      try simp only [List.getElem_toArray, List.getElem_cons_succ, List.getElem_cons_zero, Act.put, List.setIfInBounds_toArray, List.set_cons_zero, List.set_cons_succ]
      refine wpAnyH_take (i := 9) (v := ?_) rfl (by kernel_rfl) (by kernel_rfl) (by kernel_rfl) (fun _ _ _ h => h) (Or.inl ⟨by rfl, ?_⟩) (by assumption) ?_
      rotate_left
      · intro w9 hSw; (try dsimp only at hSw); go_simp; try with_reducible rfl
      try simp only [List.getElem_toArray, List.getElem_cons_succ, List.getElem_cons_zero, Act.put, List.setIfInBounds_toArray, List.set_cons_zero, List.set_cons_succ]
      refine wpAnyH_take (i := 10) (v := ?_) rfl (by kernel_rfl) (by kernel_rfl) (by kernel_rfl) (fun _ _ _ h => h) (Or.inl ⟨by rfl, ?_⟩) (by assumption) ?_
      rotate_left
      · intro w9 hSw; (try dsimp only at hSw); go_simp; try with_reducible rfl
      try simp only [List.getElem_toArray, List.getElem_cons_succ, List.getElem_cons_zero, Act.put, List.setIfInBounds_toArray, List.set_cons_zero, List.set_cons_succ]
      refine wpAnyH_take (i := 11) (v := ?_) rfl (by kernel_rfl) (by kernel_rfl) (by kernel_rfl) (fun _ _ _ h => h) (Or.inl ⟨by rfl, ?_⟩) (by assumption) ?_
      rotate_left
      · intro w9 hSw; (try dsimp only at hSw); go_simp; try with_reducible rfl
      try simp only [List.getElem_toArray, List.getElem_cons_succ, List.getElem_cons_zero, Act.put, List.setIfInBounds_toArray, List.set_cons_zero, List.set_cons_succ]
      refine wpAnyH_take (i := 12) (v := ?_) rfl (by kernel_rfl) (by kernel_rfl) (by kernel_rfl) (fun _ _ _ h => h) (Or.inl ⟨by rfl, ?_⟩) (by assumption) ?_
      rotate_left
      · intro w9 hSw; (try dsimp only at hSw); go_simp; try with_reducible rfl
      try simp only [List.getElem_toArray, List.getElem_cons_succ, List.getElem_cons_zero, Act.put, List.setIfInBounds_toArray, List.set_cons_zero, List.set_cons_succ]
      refine wpAnyH_take (i := 13) (v := ?_) rfl (by kernel_rfl) (by kernel_rfl) (by kernel_rfl) (fun _ _ _ h => h) (Or.inl ⟨by rfl, ?_⟩) (by assumption) ?_
      rotate_left
      · intro w9 hSw; (try dsimp only at hSw); go_simp; try with_reducible rfl
      try simp only [List.getElem_toArray, List.getElem_cons_succ, List.getElem_cons_zero, Act.put, List.setIfInBounds_toArray, List.set_cons_zero, List.set_cons_succ]
      refine wpAnyH_take (i := 14) (v := ?_) rfl (by kernel_rfl) (by kernel_rfl) (by kernel_rfl) (fun _ _ _ h => h) (Or.inl ⟨by rfl, ?_⟩) (by assumption) ?_
      rotate_left
      · intro w9 hSw; (try dsimp only at hSw); go_simp; try with_reducible rfl
      try simp only [List.getElem_toArray, List.getElem_cons_succ, List.getElem_cons_zero, Act.put, List.setIfInBounds_toArray, List.set_cons_zero, List.set_cons_succ]
      refine wpAnyH_ready (rs := [1, 8]) (by kernel_rfl) (by simp) ?_
      refine AllReadyH.cons rfl (fun K hK => ?_) ?_
      · skip
        clear hHeld
        go_simp
        refine hK.out _ _ ?_ (fun hHeld => ?_)
        · exact ⟨d0, d1, d2, d3⟩
        clear hK K
        try simp only [List.getElem_toArray, List.getElem_cons_succ, List.getElem_cons_zero, Act.put, List.setIfInBounds_toArray, List.set_cons_zero, List.set_cons_succ]
        refine wpAnyH_ready (rs := [8]) (by kernel_rfl) (by simp) ?_
        refine AllReadyH.cons rfl (fun K hK => ?_) AllReadyH.nil
        clear hHeld
        go_simp
        refine (HWA.out _ HBh61.out).mono ?_
        rintro e1 v62 ⟨p1, q1, cs1, rfl, hk1, hb⟩
        rw [HLa.out] at hk1
        have HK1 := Lib.hid hk1
        have hlo1 : wr.heap.size ≤ v61.heap.size := HBh61.out.size
        clear hk1
        have sz62 : v61.heap.size ≤ v62.heap.size := hb.size
        replace yf := fro_keep hb y1 yf
        replace d0 := cell_keep hb d0
        replace d1 := cell_keep hb d1
        replace d2 := cell_keep hb d2
        replace d3 := cell_keep hb d3
        replace y0 := cell_keep hb y0
        replace y1 := cell_keep hb y1
        have HBh62 := Lib.hid (HBh61.out.trans (hb.mono (by have := HBh61.out.size; omega)))
        clear hb
        refine hK.out _ _ ?_ (fun hHeld => ?_)
        · exact ⟨d0, d1, d2, d3⟩
        clear hK K
        try simp only [List.getElem_toArray, List.getElem_cons_succ, List.getElem_cons_zero, Act.put, List.setIfInBounds_toArray, List.set_cons_zero, List.set_cons_succ]
        refine wpAnyH_ready (rs := [15]) (by kernel_rfl) (by simp) ?_
        refine AllReadyH.cons rfl (fun K hK => ?_) AllReadyH.nil
        clear hHeld
        go_simp
        refine (HWB.out _ HBh62.out).mono ?_
        rintro e2 v63 ⟨p2, q2, cs2, rfl, hk2, hb⟩
        rw [HLb.out] at hk2
        have HK1b := Lib.hid (widc.k_below HK1.out hb)
        obtain ⟨g2, cap2, hf2, _, _⟩ := hk2.1.form (by rw [e2]; omega)
        obtain ⟨rfl, rfl⟩ : p2 = some ⟨g2, 0, none⟩ ∧ q2 = cap2 := by simp at hf2; exact ⟨hf2.1, hf2.2.2⟩
        have HK2 := Lib.hid hk2
        clear hf2 hk2 HK1
        have sz63 : v62.heap.size ≤ v63.heap.size := hb.size
        replace yf := fro_keep hb y1 yf
        replace d0 := cell_keep hb d0
        replace d1 := cell_keep hb d1
        replace d2 := cell_keep hb d2
        replace d3 := cell_keep hb d3
        replace y0 := cell_keep hb y0
        replace y1 := cell_keep hb y1
        have HBh63 := Lib.hid (HBh62.out.trans (hb.mono (by have := HBh62.out.size; omega)))
        clear hb
        refine hK.out _ _ ?_ (fun hHeld => ?_)
        · exact ⟨d0, d1, d2, d3⟩
        clear hK K
        try simp only [List.getElem_toArray, List.getElem_cons_succ, List.getElem_cons_zero, Act.put, List.setIfInBounds_toArray, List.set_cons_zero, List.set_cons_succ]
        refine wpAnyH_ready (rs := [16]) (by kernel_rfl) (by simp) ?_
        refine AllReadyH.cons rfl (fun K hK => ?_) AllReadyH.nil
        clear hHeld
        have hr1 := HK1b.out.1
        rw [e1] at hr1
        have hv1 : ∀ g, (Value.slice p1 l.length q1).ownBlock = some g → v61.heap.size ≤ g := fun g e => (hr1.lt g e).1
        refine step_append_any (by rfl) _ _ 110 (by rfl) v61.heap.size 56 i0 (.agg #[.slice none 0 0, .int .i64 0]) 2 32 Try.underlying110 hi hz0 hz1 hz2 (by rfl) (by decide) (.slice p1 l.length q1) l.length (flatJ cs1 L1) (by rfl) hr1 ⟨g2, 0, none⟩ m.length q2 (flatJ cs2 L2) (by rfl) (by rw [flatJ_length _ _ (widc.k_len HK2.out), e2]) (fun j u hj => HK2.out.1.cells (g := g2) rfl j u hj) (widc.k_one HK2.out) (by unfold maxLen; omega) (by omega) (by omega) ?_
        intro u3 v64 hown hg hat
        obtain ⟨g3, q3, rfl, _, _⟩ := hown.form (by omega)
        have HK3 := Lib.hid (show OwnK v61.heap.size v64.heap.size v64 (.slice (some ⟨g3, 0, none⟩) (l.length + m.length) q3) (L1 ++ L2) (cs1 ++ cs2) from widc.k_app HK1b.out HK2.out (by omega) (by omega) (by omega) (by rw [e1, e2]; exact hown) hg)
        have sz64 : v63.heap.size ≤ v64.heap.size := hg.size
        replace yf := fro_grow hg y1 yf (fun g e => by have := hv1 g e; omega)
        replace d0 := cell_grow hg d0 (fun g e => by have := hv1 g e; omega)
        replace d1 := cell_grow hg d1 (fun g e => by have := hv1 g e; omega)
        replace d2 := cell_grow hg d2 (fun g e => by have := hv1 g e; omega)
        replace d3 := cell_grow hg d3 (fun g e => by have := hv1 g e; omega)
        replace y0 := cell_grow hg y0 (fun g e => by have := hv1 g e; omega)
        replace y1 := cell_grow hg y1 (fun g e => by have := hv1 g e; omega)
        have HBh64 := Lib.hid (HBh63.out.grown hg (by have := HBh63.out.size; omega) (fun g e => by have := hv1 g e; omega))
        clear hown hg hat hr1 hv1 HK1b HK2
        have HBu := HBh64
        refine hK.out _ _ ?_ (fun hHeld => ?_)
        · exact ⟨d0, d1, d2, d3⟩
        clear hK K
        try simp only [List.getElem_toArray, List.getElem_cons_succ, List.getElem_cons_zero, Act.put, List.setIfInBounds_toArray, List.set_cons_zero, List.set_cons_succ]
        refine wpAnyH_ready (rs := [17]) (by kernel_rfl) (by simp) ?_
        refine AllReadyH.cons rfl (fun K hK => ?_) AllReadyH.nil
        clear hHeld
        go_simp
        have el0 : (v64.alloc (.cells #[.slice (some ⟨g3, 0, none⟩) (l.length + m.length) q3] 110)).cell? ⟨v64.heap.size, 0, none⟩ = some (.slice (some ⟨g3, 0, none⟩) (l.length + m.length) q3) := cell_new _ _ _ rfl rfl
        have hb := below_alloc v64 (.cells #[.slice (some ⟨g3, 0, none⟩) (l.length + m.length) q3] 110)
        have hsE : (v64.alloc (.cells #[.slice (some ⟨g3, 0, none⟩) (l.length + m.length) q3] 110)).heap.size = v64.heap.size + 1 := by simp
        obtain ⟨v65, hwE⟩ : ∃ W9, W9 = v64.alloc (.cells #[.slice (some ⟨g3, 0, none⟩) (l.length + m.length) q3] 110) := ⟨_, rfl⟩
        rw [← hwE] at el0 hb hsE ⊢
        have HWE := Lib.hid hwE.symm
        clear hwE
        have sz65 : v64.heap.size ≤ v65.heap.size := hb.size
        replace yf := fro_keep hb y1 yf
        replace d0 := cell_keep hb d0
        replace d1 := cell_keep hb d1
        replace d2 := cell_keep hb d2
        replace d3 := cell_keep hb d3
        replace y0 := cell_keep hb y0
        replace y1 := cell_keep hb y1
        have HBh65 := Lib.hid (HBh64.out.trans (hb.mono (by have := HBh64.out.size; omega)))
        clear hb
        refine hK.out _ _ ?_ (fun hHeld => ?_)
        · exact ⟨d0, d1, d2, d3⟩
        clear hK K
        try simp only [List.getElem_toArray, List.getElem_cons_succ, List.getElem_cons_zero, Act.put, List.setIfInBounds_toArray, List.set_cons_zero, List.set_cons_succ]
        refine wpAnyH_ready (rs := [18]) (by kernel_rfl) (by simp) ?_
        refine AllReadyH.cons rfl (fun K hK => ?_) AllReadyH.nil
        clear hHeld
        have hol := HOo.out.below HBh65.out
        have hvl : ∀ g, v.ownBlock = some g → v2.heap.size ≤ g ∧ g ≠ v2.heap.size := fun g e => ⟨(hol.1.lt g e).1, (hol.2.1 g e).1⟩
        refine step_append_lies _ (by rfl) _ _ _ (by rfl) v2.heap.size 110 j0 (.slice none 0 0) 1 24 Try.underlying42 hj hjz0 hjz1 hjz2 rfl (by omega) v RR.length vs (by rfl) hol.1 ⟨v64.heap.size, 0, none⟩ 1 1 [.slice (some ⟨g3, 0, none⟩) (l.length + m.length) q3] (by rfl) (by rfl) (fun j u hj9 => by (have h7 : j = 0 := by (have := (List.getElem?_eq_some_iff.1 hj9).1; simp at this; exact this)); subst h7; simp at hj9; subst hj9; simpa [Addr.add] using el0) (by simp [Value.oneCell']) (by omega) (by have := HRl.out; unfold maxLen; omega) (by have := HRl.out; omega) (by have := HBh65.out.size; omega) (v64.heap.size + 1) hsE ?_
        intro gg cap v66 hown hg hat hltg
        have hsn := OutL.row (O := (.cells #[.slice (some ⟨g3, 0, none⟩) (l.length + m.length) q3] 110)) (HOo.out.below HBu.out) (HK3.out.widen (by omega : wr.heap.size ≤ v61.heap.size) (Nat.le_refl _)) (by have := HBu.out.size; omega) (by omega) (by rw [HWE.out]; exact hg) hown hat hltg
        have HBn := Lib.hid ((HBl.out.trans (HBh65.out.mono (by omega : v2.heap.size ≤ wr.heap.size))).grown hg (by have := HBh65.out.size; omega) (fun g e => (hvl g e).1))
        have sz66 : v65.heap.size ≤ v66.heap.size := hg.size
        replace yf := fro_grow hg y1 yf (fun g e => by have := hvl g e; omega)
        replace d0 := cell_grow hg d0 (fun g e => by have := hvl g e; omega)
        replace d1 := cell_grow hg d1 (fun g e => by have := hvl g e; omega)
        replace d2 := cell_grow hg d2 (fun g e => by have := hvl g e; omega)
        replace d3 := cell_grow hg d3 (fun g e => by have := hvl g e; omega)
        replace y0 := cell_grow hg y0 (fun g e => by have := hvl g e; omega)
        replace y1 := cell_grow hg y1 (fun g e => by have := hvl g e; omega)
        have HSN := Lib.hid hsn
        clear hown hg hat hol hvl hsn
        refine hK.out _ _ ?_ (fun hHeld => ?_)
        · exact ⟨d0, d1, d2, d3⟩
        clear hK K
        try simp only [List.getElem_toArray, List.getElem_cons_succ, List.getElem_cons_zero, Act.put, List.setIfInBounds_toArray, List.set_cons_zero, List.set_cons_succ]
        refine wpAnyH_take (i := 19) (v := ?_) rfl (by kernel_rfl) (by kernel_rfl) (by kernel_rfl) (fun _ _ _ h => h) (Or.inl ⟨by rfl, ?_⟩) (by assumption) ?_
        rotate_left
        · intro w9 hSw; (try dsimp only at hSw); go_simp; try with_reducible rfl
        try simp only [List.getElem_toArray, List.getElem_cons_succ, List.getElem_cons_zero, Act.put, List.setIfInBounds_toArray, List.set_cons_zero, List.set_cons_succ]
        refine wpAnyH_ready (rs := [20]) (by kernel_rfl) (by simp) ?_
        refine AllReadyH.cons rfl (fun K hK => ?_) AllReadyH.nil
        clear hHeld
        go_simp
        have z1 := World.cell?_setCell_same v66 ⟨v2.heap.size, 1, none⟩ (.slice (some ⟨gg, 0, none⟩) (RR.length + 1) cap) y1
        have z0 : (v66.setCell ⟨v2.heap.size, 1, none⟩ (.slice (some ⟨gg, 0, none⟩) (RR.length + 1) cap)).cell? ⟨v2.heap.size, 0, none⟩ = some (.int .i64 n) := (World.cell?_setCell_other _ _ _ _ (by simp)).trans y0
        have zf : (v66.setCell ⟨v2.heap.size, 1, none⟩ (.slice (some ⟨gg, 0, none⟩) (RR.length + 1) cap)).frozen? ⟨v2.heap.size, 1, none⟩ = false := by rw [World.frozen?_setCell]; exact yf
        have HOz := Lib.hid (HSN.out.set 1 (.slice (some ⟨gg, 0, none⟩) (RR.length + 1) cap))
        have HBz := Lib.hid (HBn.out.setCell (p := ⟨v2.heap.size, 1, none⟩) (by show v2.heap.size ≤ v2.heap.size; omega) (.slice (some ⟨gg, 0, none⟩) (RR.length + 1) cap))
        have hsz7 : (v66.setCell ⟨v2.heap.size, 1, none⟩ (.slice (some ⟨gg, 0, none⟩) (RR.length + 1) cap)).heap.size = v66.heap.size := size_set _ _ _
        have nd0 := cell_set2 (o' := 1) d0 (by omega : w.heap.size ≠ v2.heap.size) (.slice (some ⟨gg, 0, none⟩) (RR.length + 1) cap)
        have nd1 := cell_set2 (o' := 1) d1 (by omega : bl ≠ v2.heap.size) (.slice (some ⟨gg, 0, none⟩) (RR.length + 1) cap)
        have nd2 := cell_set2 (o' := 1) d2 (by omega : w.heap.size + 1 ≠ v2.heap.size) (.slice (some ⟨gg, 0, none⟩) (RR.length + 1) cap)
        have nd3 := cell_set2 (o' := 1) d3 (by omega : bm ≠ v2.heap.size) (.slice (some ⟨gg, 0, none⟩) (RR.length + 1) cap)
        clear d0 d1 d2 d3 y0 y1 yf
        generalize hwn : (v66.setCell ⟨v2.heap.size, 1, none⟩ (.slice (some ⟨gg, 0, none⟩) (RR.length + 1) cap)) = v67 at *
        clear hwn
        have d0 := nd0
        have d1 := nd1
        have d2 := nd2
        have d3 := nd3
        clear nd0 nd1 nd2 nd3
        refine hK.out _ _ ?_ (fun hHeld => ?_)
        · exact ⟨d0, d1, d2, d3⟩
        clear hK K
        try simp only [List.getElem_toArray, List.getElem_cons_succ, List.getElem_cons_zero, Act.put, List.setIfInBounds_toArray, List.set_cons_zero, List.set_cons_succ]
        refine wpAnyH_done (by kernel_rfl) ?_ _
        refine NoPanic.normal ?_
        clear hHeld
        have HOz2 := Lib.hid (show OutL v2.heap.size v2.heap.size v67.heap.size v67 (.slice (some ⟨gg, 0, none⟩) (RR.length + 1) cap) (vs ++ [.slice (some ⟨g3, 0, none⟩) (l.length + m.length) q3]) (css ++ [cs1 ++ cs2]) (RR ++ [L1 ++ L2]) from by rw [hsz7]; exact HOz.out)
        go_wp2_with fail
        go_roundw
        case rel => exact ⟨k + 1, _, _, _, by omega, by go_num, by rw [HPA.out], by rw [HPB.out], by rw [HTK.out]; exact HOz2.out, Lib.hid ⟨z0, z1, zf⟩, HBz.out, by omega, Lib.hid (fun i hi => (Nat.lt_or_ge i k).elim (HIV.out i) (fun h9 => (Nat.le_antisymm h9 (Nat.le_of_lt_succ hi)) ▸ HGk.out))⟩
        case measure => simp [intOf]; omega
      refine AllReadyH.cons rfl (fun K hK => ?_) AllReadyH.nil
      clear hHeld
      go_simp
      refine (HWA.out _ HBh61.out).mono ?_
      rintro e1 v62 ⟨p1, q1, cs1, rfl, hk1, hb⟩
      rw [HLa.out] at hk1
      have HK1 := Lib.hid hk1
      have hlo1 : wr.heap.size ≤ v61.heap.size := HBh61.out.size
      clear hk1
      have sz62 : v61.heap.size ≤ v62.heap.size := hb.size
      replace yf := fro_keep hb y1 yf
      replace d0 := cell_keep hb d0
      replace d1 := cell_keep hb d1
      replace d2 := cell_keep hb d2
      replace d3 := cell_keep hb d3
      replace y0 := cell_keep hb y0
      replace y1 := cell_keep hb y1
      have HBh62 := Lib.hid (HBh61.out.trans (hb.mono (by have := HBh61.out.size; omega)))
      clear hb
      refine hK.out _ _ ?_ (fun hHeld => ?_)
      · exact ⟨d0, d1, d2, d3⟩
      clear hK K
      try simp only [List.getElem_toArray, List.getElem_cons_succ, List.getElem_cons_zero, Act.put, List.setIfInBounds_toArray, List.set_cons_zero, List.set_cons_succ]
      refine wpAnyH_ready (rs := [1, 15]) (by kernel_rfl) (by simp) ?_
      refine AllReadyH.cons rfl (fun K hK => ?_) ?_
      · skip
        clear hHeld
        go_simp
        refine hK.out _ _ ?_ (fun hHeld => ?_)
        · exact ⟨d0, d1, d2, d3⟩
        clear hK K
        try simp only [List.getElem_toArray, List.getElem_cons_succ, List.getElem_cons_zero, Act.put, List.setIfInBounds_toArray, List.set_cons_zero, List.set_cons_succ]
        refine wpAnyH_ready (rs := [15]) (by kernel_rfl) (by simp) ?_
        refine AllReadyH.cons rfl (fun K hK => ?_) AllReadyH.nil
        clear hHeld
        go_simp
        refine (HWB.out _ HBh62.out).mono ?_
        rintro e2 v63 ⟨p2, q2, cs2, rfl, hk2, hb⟩
        rw [HLb.out] at hk2
        have HK1b := Lib.hid (widc.k_below HK1.out hb)
        obtain ⟨g2, cap2, hf2, _, _⟩ := hk2.1.form (by rw [e2]; omega)
        obtain ⟨rfl, rfl⟩ : p2 = some ⟨g2, 0, none⟩ ∧ q2 = cap2 := by simp at hf2; exact ⟨hf2.1, hf2.2.2⟩
        have HK2 := Lib.hid hk2
        clear hf2 hk2 HK1
        have sz63 : v62.heap.size ≤ v63.heap.size := hb.size
        replace yf := fro_keep hb y1 yf
        replace d0 := cell_keep hb d0
        replace d1 := cell_keep hb d1
        replace d2 := cell_keep hb d2
        replace d3 := cell_keep hb d3
        replace y0 := cell_keep hb y0
        replace y1 := cell_keep hb y1
        have HBh63 := Lib.hid (HBh62.out.trans (hb.mono (by have := HBh62.out.size; omega)))
        clear hb
        refine hK.out _ _ ?_ (fun hHeld => ?_)
        · exact ⟨d0, d1, d2, d3⟩
        clear hK K
        try simp only [List.getElem_toArray, List.getElem_cons_succ, List.getElem_cons_zero, Act.put, List.setIfInBounds_toArray, List.set_cons_zero, List.set_cons_succ]
        refine wpAnyH_ready (rs := [16]) (by kernel_rfl) (by simp) ?_
        refine AllReadyH.cons rfl (fun K hK => ?_) AllReadyH.nil
        clear hHeld
        have hr1 := HK1b.out.1
        rw [e1] at hr1
        have hv1 : ∀ g, (Value.slice p1 l.length q1).ownBlock = some g → v61.heap.size ≤ g := fun g e => (hr1.lt g e).1
        refine step_append_any (by rfl) _ _ 110 (by rfl) v61.heap.size 56 i0 (.agg #[.slice none 0 0, .int .i64 0]) 2 32 Try.underlying110 hi hz0 hz1 hz2 (by rfl) (by decide) (.slice p1 l.length q1) l.length (flatJ cs1 L1) (by rfl) hr1 ⟨g2, 0, none⟩ m.length q2 (flatJ cs2 L2) (by rfl) (by rw [flatJ_length _ _ (widc.k_len HK2.out), e2]) (fun j u hj => HK2.out.1.cells (g := g2) rfl j u hj) (widc.k_one HK2.out) (by unfold maxLen; omega) (by omega) (by omega) ?_
        intro u3 v64 hown hg hat
        obtain ⟨g3, q3, rfl, _, _⟩ := hown.form (by omega)
        have HK3 := Lib.hid (show OwnK v61.heap.size v64.heap.size v64 (.slice (some ⟨g3, 0, none⟩) (l.length + m.length) q3) (L1 ++ L2) (cs1 ++ cs2) from widc.k_app HK1b.out HK2.out (by omega) (by omega) (by omega) (by rw [e1, e2]; exact hown) hg)
        have sz64 : v63.heap.size ≤ v64.heap.size := hg.size
        replace yf := fro_grow hg y1 yf (fun g e => by have := hv1 g e; omega)
        replace d0 := cell_grow hg d0 (fun g e => by have := hv1 g e; omega)
        replace d1 := cell_grow hg d1 (fun g e => by have := hv1 g e; omega)
        replace d2 := cell_grow hg d2 (fun g e => by have := hv1 g e; omega)
        replace d3 := cell_grow hg d3 (fun g e => by have := hv1 g e; omega)
        replace y0 := cell_grow hg y0 (fun g e => by have := hv1 g e; omega)
        replace y1 := cell_grow hg y1 (fun g e => by have := hv1 g e; omega)
        have HBh64 := Lib.hid (HBh63.out.grown hg (by have := HBh63.out.size; omega) (fun g e => by have := hv1 g e; omega))
        clear hown hg hat hr1 hv1 HK1b HK2
        have HBu := HBh64
        refine hK.out _ _ ?_ (fun hHeld => ?_)
        · exact ⟨d0, d1, d2, d3⟩
        clear hK K
        try simp only [List.getElem_toArray, List.getElem_cons_succ, List.getElem_cons_zero, Act.put, List.setIfInBounds_toArray, List.set_cons_zero, List.set_cons_succ]
        refine wpAnyH_ready (rs := [17]) (by kernel_rfl) (by simp) ?_
        refine AllReadyH.cons rfl (fun K hK => ?_) AllReadyH.nil
        clear hHeld
        go_simp
        have el0 : (v64.alloc (.cells #[.slice (some ⟨g3, 0, none⟩) (l.length + m.length) q3] 110)).cell? ⟨v64.heap.size, 0, none⟩ = some (.slice (some ⟨g3, 0, none⟩) (l.length + m.length) q3) := cell_new _ _ _ rfl rfl
        have hb := below_alloc v64 (.cells #[.slice (some ⟨g3, 0, none⟩) (l.length + m.length) q3] 110)
        have hsE : (v64.alloc (.cells #[.slice (some ⟨g3, 0, none⟩) (l.length + m.length) q3] 110)).heap.size = v64.heap.size + 1 := by simp
        obtain ⟨v65, hwE⟩ : ∃ W9, W9 = v64.alloc (.cells #[.slice (some ⟨g3, 0, none⟩) (l.length + m.length) q3] 110) := ⟨_, rfl⟩
        rw [← hwE] at el0 hb hsE ⊢
        have HWE := Lib.hid hwE.symm
        clear hwE
        have sz65 : v64.heap.size ≤ v65.heap.size := hb.size
        replace yf := fro_keep hb y1 yf
        replace d0 := cell_keep hb d0
        replace d1 := cell_keep hb d1
        replace d2 := cell_keep hb d2
        replace d3 := cell_keep hb d3
        replace y0 := cell_keep hb y0
        replace y1 := cell_keep hb y1
        have HBh65 := Lib.hid (HBh64.out.trans (hb.mono (by have := HBh64.out.size; omega)))
        clear hb
        refine hK.out _ _ ?_ (fun hHeld => ?_)
        · exact ⟨d0, d1, d2, d3⟩
        clear hK K
        try simp only [List.getElem_toArray, List.getElem_cons_succ, List.getElem_cons_zero, Act.put, List.setIfInBounds_toArray, List.set_cons_zero, List.set_cons_succ]
        refine wpAnyH_ready (rs := [18]) (by kernel_rfl) (by simp) ?_
        refine AllReadyH.cons rfl (fun K hK => ?_) AllReadyH.nil
        clear hHeld
        have hol := HOo.out.below HBh65.out
        have hvl : ∀ g, v.ownBlock = some g → v2.heap.size ≤ g ∧ g ≠ v2.heap.size := fun g e => ⟨(hol.1.lt g e).1, (hol.2.1 g e).1⟩
        refine step_append_lies _ (by rfl) _ _ _ (by rfl) v2.heap.size 110 j0 (.slice none 0 0) 1 24 Try.underlying42 hj hjz0 hjz1 hjz2 rfl (by omega) v RR.length vs (by rfl) hol.1 ⟨v64.heap.size, 0, none⟩ 1 1 [.slice (some ⟨g3, 0, none⟩) (l.length + m.length) q3] (by rfl) (by rfl) (fun j u hj9 => by (have h7 : j = 0 := by (have := (List.getElem?_eq_some_iff.1 hj9).1; simp at this; exact this)); subst h7; simp at hj9; subst hj9; simpa [Addr.add] using el0) (by simp [Value.oneCell']) (by omega) (by have := HRl.out; unfold maxLen; omega) (by have := HRl.out; omega) (by have := HBh65.out.size; omega) (v64.heap.size + 1) hsE ?_
        intro gg cap v66 hown hg hat hltg
        have hsn := OutL.row (O := (.cells #[.slice (some ⟨g3, 0, none⟩) (l.length + m.length) q3] 110)) (HOo.out.below HBu.out) (HK3.out.widen (by omega : wr.heap.size ≤ v61.heap.size) (Nat.le_refl _)) (by have := HBu.out.size; omega) (by omega) (by rw [HWE.out]; exact hg) hown hat hltg
        have HBn := Lib.hid ((HBl.out.trans (HBh65.out.mono (by omega : v2.heap.size ≤ wr.heap.size))).grown hg (by have := HBh65.out.size; omega) (fun g e => (hvl g e).1))
        have sz66 : v65.heap.size ≤ v66.heap.size := hg.size
        replace yf := fro_grow hg y1 yf (fun g e => by have := hvl g e; omega)
        replace d0 := cell_grow hg d0 (fun g e => by have := hvl g e; omega)
        replace d1 := cell_grow hg d1 (fun g e => by have := hvl g e; omega)
        replace d2 := cell_grow hg d2 (fun g e => by have := hvl g e; omega)
        replace d3 := cell_grow hg d3 (fun g e => by have := hvl g e; omega)
        replace y0 := cell_grow hg y0 (fun g e => by have := hvl g e; omega)
        replace y1 := cell_grow hg y1 (fun g e => by have := hvl g e; omega)
        have HSN := Lib.hid hsn
        clear hown hg hat hol hvl hsn
        refine hK.out _ _ ?_ (fun hHeld => ?_)
        · exact ⟨d0, d1, d2, d3⟩
        clear hK K
        try simp only [List.getElem_toArray, List.getElem_cons_succ, List.getElem_cons_zero, Act.put, List.setIfInBounds_toArray, List.set_cons_zero, List.set_cons_succ]
        refine wpAnyH_take (i := 19) (v := ?_) rfl (by kernel_rfl) (by kernel_rfl) (by kernel_rfl) (fun _ _ _ h => h) (Or.inl ⟨by rfl, ?_⟩) (by assumption) ?_
        rotate_left
        · intro w9 hSw; (try dsimp only at hSw); go_simp; try with_reducible rfl
        try simp only [List.getElem_toArray, List.getElem_cons_succ, List.getElem_cons_zero, Act.put, List.setIfInBounds_toArray, List.set_cons_zero, List.set_cons_succ]
        refine wpAnyH_ready (rs := [20]) (by kernel_rfl) (by simp) ?_
        refine AllReadyH.cons rfl (fun K hK => ?_) AllReadyH.nil
        clear hHeld
        go_simp
        have z1 := World.cell?_setCell_same v66 ⟨v2.heap.size, 1, none⟩ (.slice (some ⟨gg, 0, none⟩) (RR.length + 1) cap) y1
        have z0 : (v66.setCell ⟨v2.heap.size, 1, none⟩ (.slice (some ⟨gg, 0, none⟩) (RR.length + 1) cap)).cell? ⟨v2.heap.size, 0, none⟩ = some (.int .i64 n) := (World.cell?_setCell_other _ _ _ _ (by simp)).trans y0
        have zf : (v66.setCell ⟨v2.heap.size, 1, none⟩ (.slice (some ⟨gg, 0, none⟩) (RR.length + 1) cap)).frozen? ⟨v2.heap.size, 1, none⟩ = false := by rw [World.frozen?_setCell]; exact yf
        have HOz := Lib.hid (HSN.out.set 1 (.slice (some ⟨gg, 0, none⟩) (RR.length + 1) cap))
        have HBz := Lib.hid (HBn.out.setCell (p := ⟨v2.heap.size, 1, none⟩) (by show v2.heap.size ≤ v2.heap.size; omega) (.slice (some ⟨gg, 0, none⟩) (RR.length + 1) cap))
        have hsz7 : (v66.setCell ⟨v2.heap.size, 1, none⟩ (.slice (some ⟨gg, 0, none⟩) (RR.length + 1) cap)).heap.size = v66.heap.size := size_set _ _ _
        have nd0 := cell_set2 (o' := 1) d0 (by omega : w.heap.size ≠ v2.heap.size) (.slice (some ⟨gg, 0, none⟩) (RR.length + 1) cap)
        have nd1 := cell_set2 (o' := 1) d1 (by omega : bl ≠ v2.heap.size) (.slice (some ⟨gg, 0, none⟩) (RR.length + 1) cap)
        have nd2 := cell_set2 (o' := 1) d2 (by omega : w.heap.size + 1 ≠ v2.heap.size) (.slice (some ⟨gg, 0, none⟩) (RR.length + 1) cap)
        have nd3 := cell_set2 (o' := 1) d3 (by omega : bm ≠ v2.heap.size) (.slice (some ⟨gg, 0, none⟩) (RR.length + 1) cap)
        clear d0 d1 d2 d3 y0 y1 yf
        generalize hwn : (v66.setCell ⟨v2.heap.size, 1, none⟩ (.slice (some ⟨gg, 0, none⟩) (RR.length + 1) cap)) = v67 at *
        clear hwn
        have d0 := nd0
        have d1 := nd1
        have d2 := nd2
        have d3 := nd3
        clear nd0 nd1 nd2 nd3
        refine hK.out _ _ ?_ (fun hHeld => ?_)
        · exact ⟨d0, d1, d2, d3⟩
        clear hK K
        try simp only [List.getElem_toArray, List.getElem_cons_succ, List.getElem_cons_zero, Act.put, List.setIfInBounds_toArray, List.set_cons_zero, List.set_cons_succ]
        refine wpAnyH_done (by kernel_rfl) ?_ _
        refine NoPanic.normal ?_
        clear hHeld
        have HOz2 := Lib.hid (show OutL v2.heap.size v2.heap.size v67.heap.size v67 (.slice (some ⟨gg, 0, none⟩) (RR.length + 1) cap) (vs ++ [.slice (some ⟨g3, 0, none⟩) (l.length + m.length) q3]) (css ++ [cs1 ++ cs2]) (RR ++ [L1 ++ L2]) from by rw [hsz7]; exact HOz.out)
        go_wp2_with fail
        go_roundw
        case rel => exact ⟨k + 1, _, _, _, by omega, by go_num, by rw [HPA.out], by rw [HPB.out], by rw [HTK.out]; exact HOz2.out, Lib.hid ⟨z0, z1, zf⟩, HBz.out, by omega, Lib.hid (fun i hi => (Nat.lt_or_ge i k).elim (HIV.out i) (fun h9 => (Nat.le_antisymm h9 (Nat.le_of_lt_succ hi)) ▸ HGk.out))⟩
        case measure => simp [intOf]; omega
      refine AllReadyH.cons rfl (fun K hK => ?_) AllReadyH.nil
      clear hHeld
      go_simp
      refine (HWB.out _ HBh62.out).mono ?_
      rintro e2 v63 ⟨p2, q2, cs2, rfl, hk2, hb⟩
      rw [HLb.out] at hk2
      have HK1b := Lib.hid (widc.k_below HK1.out hb)
      obtain ⟨g2, cap2, hf2, _, _⟩ := hk2.1.form (by rw [e2]; omega)
      obtain ⟨rfl, rfl⟩ : p2 = some ⟨g2, 0, none⟩ ∧ q2 = cap2 := by simp at hf2; exact ⟨hf2.1, hf2.2.2⟩
      have HK2 := Lib.hid hk2
      clear hf2 hk2 HK1
      have sz63 : v62.heap.size ≤ v63.heap.size := hb.size
      replace yf := fro_keep hb y1 yf
      replace d0 := cell_keep hb d0
      replace d1 := cell_keep hb d1
      replace d2 := cell_keep hb d2
      replace d3 := cell_keep hb d3
      replace y0 := cell_keep hb y0
      replace y1 := cell_keep hb y1
      have HBh63 := Lib.hid (HBh62.out.trans (hb.mono (by have := HBh62.out.size; omega)))
      clear hb
      refine hK.out _ _ ?_ (fun hHeld => ?_)
      · exact ⟨d0, d1, d2, d3⟩
      clear hK K
      try simp only [List.getElem_toArray, List.getElem_cons_succ, List.getElem_cons_zero, Act.put, List.setIfInBounds_toArray, List.set_cons_zero, List.set_cons_succ]
      refine wpAnyH_ready (rs := [1, 16]) (by kernel_rfl) (by simp) ?_
      refine AllReadyH.cons rfl (fun K hK => ?_) ?_
      · skip
        clear hHeld
        go_simp
        refine hK.out _ _ ?_ (fun hHeld => ?_)
        · exact ⟨d0, d1, d2, d3⟩
        clear hK K
        try simp only [List.getElem_toArray, List.getElem_cons_succ, List.getElem_cons_zero, Act.put, List.setIfInBounds_toArray, List.set_cons_zero, List.set_cons_succ]
        refine wpAnyH_ready (rs := [16]) (by kernel_rfl) (by simp) ?_
        refine AllReadyH.cons rfl (fun K hK => ?_) AllReadyH.nil
        clear hHeld
        have hr1 := HK1b.out.1
        rw [e1] at hr1
        have hv1 : ∀ g, (Value.slice p1 l.length q1).ownBlock = some g → v61.heap.size ≤ g := fun g e => (hr1.lt g e).1
        refine step_append_any (by rfl) _ _ 110 (by rfl) v61.heap.size 56 i0 (.agg #[.slice none 0 0, .int .i64 0]) 2 32 Try.underlying110 hi hz0 hz1 hz2 (by rfl) (by decide) (.slice p1 l.length q1) l.length (flatJ cs1 L1) (by rfl) hr1 ⟨g2, 0, none⟩ m.length q2 (flatJ cs2 L2) (by rfl) (by rw [flatJ_length _ _ (widc.k_len HK2.out), e2]) (fun j u hj => HK2.out.1.cells (g := g2) rfl j u hj) (widc.k_one HK2.out) (by unfold maxLen; omega) (by omega) (by omega) ?_
        intro u3 v64 hown hg hat
        obtain ⟨g3, q3, rfl, _, _⟩ := hown.form (by omega)
        have HK3 := Lib.hid (show OwnK v61.heap.size v64.heap.size v64 (.slice (some ⟨g3, 0, none⟩) (l.length + m.length) q3) (L1 ++ L2) (cs1 ++ cs2) from widc.k_app HK1b.out HK2.out (by omega) (by omega) (by omega) (by rw [e1, e2]; exact hown) hg)
        have sz64 : v63.heap.size ≤ v64.heap.size := hg.size
        replace yf := fro_grow hg y1 yf (fun g e => by have := hv1 g e; omega)
        replace d0 := cell_grow hg d0 (fun g e => by have := hv1 g e; omega)
        replace d1 := cell_grow hg d1 (fun g e => by have := hv1 g e; omega)
        replace d2 := cell_grow hg d2 (fun g e => by have := hv1 g e; omega)
        replace d3 := cell_grow hg d3 (fun g e => by have := hv1 g e; omega)
        replace y0 := cell_grow hg y0 (fun g e => by have := hv1 g e; omega)
        replace y1 := cell_grow hg y1 (fun g e => by have := hv1 g e; omega)
        have HBh64 := Lib.hid (HBh63.out.grown hg (by have := HBh63.out.size; omega) (fun g e => by have := hv1 g e; omega))
        clear hown hg hat hr1 hv1 HK1b HK2
        have HBu := HBh64
        refine hK.out _ _ ?_ (fun hHeld => ?_)
        · exact ⟨d0, d1, d2, d3⟩
        clear hK K
        try simp only [List.getElem_toArray, List.getElem_cons_succ, List.getElem_cons_zero, Act.put, List.setIfInBounds_toArray, List.set_cons_zero, List.set_cons_succ]
        refine wpAnyH_ready (rs := [17]) (by kernel_rfl) (by simp) ?_
        refine AllReadyH.cons rfl (fun K hK => ?_) AllReadyH.nil
        clear hHeld
        go_simp
        have el0 : (v64.alloc (.cells #[.slice (some ⟨g3, 0, none⟩) (l.length + m.length) q3] 110)).cell? ⟨v64.heap.size, 0, none⟩ = some (.slice (some ⟨g3, 0, none⟩) (l.length + m.length) q3) := cell_new _ _ _ rfl rfl
        have hb := below_alloc v64 (.cells #[.slice (some ⟨g3, 0, none⟩) (l.length + m.length) q3] 110)
        have hsE : (v64.alloc (.cells #[.slice (some ⟨g3, 0, none⟩) (l.length + m.length) q3] 110)).heap.size = v64.heap.size + 1 := by simp
        obtain ⟨v65, hwE⟩ : ∃ W9, W9 = v64.alloc (.cells #[.slice (some ⟨g3, 0, none⟩) (l.length + m.length) q3] 110) := ⟨_, rfl⟩
        rw [← hwE] at el0 hb hsE ⊢
        have HWE := Lib.hid hwE.symm
        clear hwE
        have sz65 : v64.heap.size ≤ v65.heap.size := hb.size
        replace yf := fro_keep hb y1 yf
        replace d0 := cell_keep hb d0
        replace d1 := cell_keep hb d1
        replace d2 := cell_keep hb d2
        replace d3 := cell_keep hb d3
        replace y0 := cell_keep hb y0
        replace y1 := cell_keep hb y1
        have HBh65 := Lib.hid (HBh64.out.trans (hb.mono (by have := HBh64.out.size; omega)))
        clear hb
        refine hK.out _ _ ?_ (fun hHeld => ?_)
        · exact ⟨d0, d1, d2, d3⟩
        clear hK K
        try simp only [List.getElem_toArray, List.getElem_cons_succ, List.getElem_cons_zero, Act.put, List.setIfInBounds_toArray, List.set_cons_zero, List.set_cons_succ]
        refine wpAnyH_ready (rs := [18]) (by kernel_rfl) (by simp) ?_
        refine AllReadyH.cons rfl (fun K hK => ?_) AllReadyH.nil
        clear hHeld
        have hol := HOo.out.below HBh65.out
        have hvl : ∀ g, v.ownBlock = some g → v2.heap.size ≤ g ∧ g ≠ v2.heap.size := fun g e => ⟨(hol.1.lt g e).1, (hol.2.1 g e).1⟩
        refine step_append_lies _ (by rfl) _ _ _ (by rfl) v2.heap.size 110 j0 (.slice none 0 0) 1 24 Try.underlying42 hj hjz0 hjz1 hjz2 rfl (by omega) v RR.length vs (by rfl) hol.1 ⟨v64.heap.size, 0, none⟩ 1 1 [.slice (some ⟨g3, 0, none⟩) (l.length + m.length) q3] (by rfl) (by rfl) (fun j u hj9 => by (have h7 : j = 0 := by (have := (List.getElem?_eq_some_iff.1 hj9).1; simp at this; exact this)); subst h7; simp at hj9; subst hj9; simpa [Addr.add] using el0) (by simp [Value.oneCell']) (by omega) (by have := HRl.out; unfold maxLen; omega) (by have := HRl.out; omega) (by have := HBh65.out.size; omega) (v64.heap.size + 1) hsE ?_
        intro gg cap v66 hown hg hat hltg
        have hsn := OutL.row (O := (.cells #[.slice (some ⟨g3, 0, none⟩) (l.length + m.length) q3] 110)) (HOo.out.below HBu.out) (HK3.out.widen (by omega : wr.heap.size ≤ v61.heap.size) (Nat.le_refl _)) (by have := HBu.out.size; omega) (by omega) (by rw [HWE.out]; exact hg) hown hat hltg
        have HBn := Lib.hid ((HBl.out.trans (HBh65.out.mono (by omega : v2.heap.size ≤ wr.heap.size))).grown hg (by have := HBh65.out.size; omega) (fun g e => (hvl g e).1))
        have sz66 : v65.heap.size ≤ v66.heap.size := hg.size
        replace yf := fro_grow hg y1 yf (fun g e => by have := hvl g e; omega)
        replace d0 := cell_grow hg d0 (fun g e => by have := hvl g e; omega)
        replace d1 := cell_grow hg d1 (fun g e => by have := hvl g e; omega)
        replace d2 := cell_grow hg d2 (fun g e => by have := hvl g e; omega)
        replace d3 := cell_grow hg d3 (fun g e => by have := hvl g e; omega)
        replace y0 := cell_grow hg y0 (fun g e => by have := hvl g e; omega)
        replace y1 := cell_grow hg y1 (fun g e => by have := hvl g e; omega)
        have HSN := Lib.hid hsn
        clear hown hg hat hol hvl hsn
        refine hK.out _ _ ?_ (fun hHeld => ?_)
        · exact ⟨d0, d1, d2, d3⟩
        clear hK K
        try simp only [List.getElem_toArray, List.getElem_cons_succ, List.getElem_cons_zero, Act.put, List.setIfInBounds_toArray, List.set_cons_zero, List.set_cons_succ]
        refine wpAnyH_take (i := 19) (v := ?_) rfl (by kernel_rfl) (by kernel_rfl) (by kernel_rfl) (fun _ _ _ h => h) (Or.inl ⟨by rfl, ?_⟩) (by assumption) ?_
        rotate_left
        · intro w9 hSw; (try dsimp only at hSw); go_simp; try with_reducible rfl
        try simp only [List.getElem_toArray, List.getElem_cons_succ, List.getElem_cons_zero, Act.put, List.setIfInBounds_toArray, List.set_cons_zero, List.set_cons_succ]
        refine wpAnyH_ready (rs := [20]) (by kernel_rfl) (by simp) ?_
        refine AllReadyH.cons rfl (fun K hK => ?_) AllReadyH.nil
        clear hHeld
        go_simp
        have z1 := World.cell?_setCell_same v66 ⟨v2.heap.size, 1, none⟩ (.slice (some ⟨gg, 0, none⟩) (RR.length + 1) cap) y1
        have z0 : (v66.setCell ⟨v2.heap.size, 1, none⟩ (.slice (some ⟨gg, 0, none⟩) (RR.length + 1) cap)).cell? ⟨v2.heap.size, 0, none⟩ = some (.int .i64 n) := (World.cell?_setCell_other _ _ _ _ (by simp)).trans y0
        have zf : (v66.setCell ⟨v2.heap.size, 1, none⟩ (.slice (some ⟨gg, 0, none⟩) (RR.length + 1) cap)).frozen? ⟨v2.heap.size, 1, none⟩ = false := by rw [World.frozen?_setCell]; exact yf
        have HOz := Lib.hid (HSN.out.set 1 (.slice (some ⟨gg, 0, none⟩) (RR.length + 1) cap))
        have HBz := Lib.hid (HBn.out.setCell (p := ⟨v2.heap.size, 1, none⟩) (by show v2.heap.size ≤ v2.heap.size; omega) (.slice (some ⟨gg, 0, none⟩) (RR.length + 1) cap))
        have hsz7 : (v66.setCell ⟨v2.heap.size, 1, none⟩ (.slice (some ⟨gg, 0, none⟩) (RR.length + 1) cap)).heap.size = v66.heap.size := size_set _ _ _
        have nd0 := cell_set2 (o' := 1) d0 (by omega : w.heap.size ≠ v2.heap.size) (.slice (some ⟨gg, 0, none⟩) (RR.length + 1) cap)
        have nd1 := cell_set2 (o' := 1) d1 (by omega : bl ≠ v2.heap.size) (.slice (some ⟨gg, 0, none⟩) (RR.length + 1) cap)
        have nd2 := cell_set2 (o' := 1) d2 (by omega : w.heap.size + 1 ≠ v2.heap.size) (.slice (some ⟨gg, 0, none⟩) (RR.length + 1) cap)
        have nd3 := cell_set2 (o' := 1) d3 (by omega : bm ≠ v2.heap.size) (.slice (some ⟨gg, 0, none⟩) (RR.length + 1) cap)
        clear d0 d1 d2 d3 y0 y1 yf
        generalize hwn : (v66.setCell ⟨v2.heap.size, 1, none⟩ (.slice (some ⟨gg, 0, none⟩) (RR.length + 1) cap)) = v67 at *
        clear hwn
        have d0 := nd0
        have d1 := nd1
        have d2 := nd2
        have d3 := nd3
        clear nd0 nd1 nd2 nd3
        refine hK.out _ _ ?_ (fun hHeld => ?_)
        · exact ⟨d0, d1, d2, d3⟩
        clear hK K
        try simp only [List.getElem_toArray, List.getElem_cons_succ, List.getElem_cons_zero, Act.put, List.setIfInBounds_toArray, List.set_cons_zero, List.set_cons_succ]
        refine wpAnyH_done (by kernel_rfl) ?_ _
        refine NoPanic.normal ?_
        clear hHeld
        have HOz2 := Lib.hid (show OutL v2.heap.size v2.heap.size v67.heap.size v67 (.slice (some ⟨gg, 0, none⟩) (RR.length + 1) cap) (vs ++ [.slice (some ⟨g3, 0, none⟩) (l.length + m.length) q3]) (css ++ [cs1 ++ cs2]) (RR ++ [L1 ++ L2]) from by rw [hsz7]; exact HOz.out)
        go_wp2_with fail
        go_roundw
        case rel => exact ⟨k + 1, _, _, _, by omega, by go_num, by rw [HPA.out], by rw [HPB.out], by rw [HTK.out]; exact HOz2.out, Lib.hid ⟨z0, z1, zf⟩, HBz.out, by omega, Lib.hid (fun i hi => (Nat.lt_or_ge i k).elim (HIV.out i) (fun h9 => (Nat.le_antisymm h9 (Nat.le_of_lt_succ hi)) ▸ HGk.out))⟩
        case measure => simp [intOf]; omega
      refine AllReadyH.cons rfl (fun K hK => ?_) AllReadyH.nil
      clear hHeld
      have hr1 := HK1b.out.1
      rw [e1] at hr1
      have hv1 : ∀ g, (Value.slice p1 l.length q1).ownBlock = some g → v61.heap.size ≤ g := fun g e => (hr1.lt g e).1
      refine step_append_any (by rfl) _ _ 110 (by rfl) v61.heap.size 56 i0 (.agg #[.slice none 0 0, .int .i64 0]) 2 32 Try.underlying110 hi hz0 hz1 hz2 (by rfl) (by decide) (.slice p1 l.length q1) l.length (flatJ cs1 L1) (by rfl) hr1 ⟨g2, 0, none⟩ m.length q2 (flatJ cs2 L2) (by rfl) (by rw [flatJ_length _ _ (widc.k_len HK2.out), e2]) (fun j u hj => HK2.out.1.cells (g := g2) rfl j u hj) (widc.k_one HK2.out) (by unfold maxLen; omega) (by omega) (by omega) ?_
      intro u3 v64 hown hg hat
      obtain ⟨g3, q3, rfl, _, _⟩ := hown.form (by omega)
      have HK3 := Lib.hid (show OwnK v61.heap.size v64.heap.size v64 (.slice (some ⟨g3, 0, none⟩) (l.length + m.length) q3) (L1 ++ L2) (cs1 ++ cs2) from widc.k_app HK1b.out HK2.out (by omega) (by omega) (by omega) (by rw [e1, e2]; exact hown) hg)
      have sz64 : v63.heap.size ≤ v64.heap.size := hg.size
      replace yf := fro_grow hg y1 yf (fun g e => by have := hv1 g e; omega)
      replace d0 := cell_grow hg d0 (fun g e => by have := hv1 g e; omega)
      replace d1 := cell_grow hg d1 (fun g e => by have := hv1 g e; omega)
      replace d2 := cell_grow hg d2 (fun g e => by have := hv1 g e; omega)
      replace d3 := cell_grow hg d3 (fun g e => by have := hv1 g e; omega)
      replace y0 := cell_grow hg y0 (fun g e => by have := hv1 g e; omega)
      replace y1 := cell_grow hg y1 (fun g e => by have := hv1 g e; omega)
      have HBh64 := Lib.hid (HBh63.out.grown hg (by have := HBh63.out.size; omega) (fun g e => by have := hv1 g e; omega))
      clear hown hg hat hr1 hv1 HK1b HK2
      have HBu := HBh64
      refine hK.out _ _ ?_ (fun hHeld => ?_)
      · exact ⟨d0, d1, d2, d3⟩
      clear hK K
      try simp only [List.getElem_toArray, List.getElem_cons_succ, List.getElem_cons_zero, Act.put, List.setIfInBounds_toArray, List.set_cons_zero, List.set_cons_succ]
      refine wpAnyH_ready (rs := [1, 17]) (by kernel_rfl) (by simp) ?_
      refine AllReadyH.cons rfl (fun K hK => ?_) ?_
      · skip
        clear hHeld
        go_simp
        refine hK.out _ _ ?_ (fun hHeld => ?_)
        · exact ⟨d0, d1, d2, d3⟩
        clear hK K
        try simp only [List.getElem_toArray, List.getElem_cons_succ, List.getElem_cons_zero, Act.put, List.setIfInBounds_toArray, List.set_cons_zero, List.set_cons_succ]
        refine wpAnyH_ready (rs := [17]) (by kernel_rfl) (by simp) ?_
        refine AllReadyH.cons rfl (fun K hK => ?_) AllReadyH.nil
        clear hHeld
        go_simp
        have el0 : (v64.alloc (.cells #[.slice (some ⟨g3, 0, none⟩) (l.length + m.length) q3] 110)).cell? ⟨v64.heap.size, 0, none⟩ = some (.slice (some ⟨g3, 0, none⟩) (l.length + m.length) q3) := cell_new _ _ _ rfl rfl
        have hb := below_alloc v64 (.cells #[.slice (some ⟨g3, 0, none⟩) (l.length + m.length) q3] 110)
        have hsE : (v64.alloc (.cells #[.slice (some ⟨g3, 0, none⟩) (l.length + m.length) q3] 110)).heap.size = v64.heap.size + 1 := by simp
        obtain ⟨v65, hwE⟩ : ∃ W9, W9 = v64.alloc (.cells #[.slice (some ⟨g3, 0, none⟩) (l.length + m.length) q3] 110) := ⟨_, rfl⟩
        rw [← hwE] at el0 hb hsE ⊢
        have HWE := Lib.hid hwE.symm
        clear hwE
        have sz65 : v64.heap.size ≤ v65.heap.size := hb.size
        replace yf := fro_keep hb y1 yf
        replace d0 := cell_keep hb d0
        replace d1 := cell_keep hb d1
        replace d2 := cell_keep hb d2
        replace d3 := cell_keep hb d3
        replace y0 := cell_keep hb y0
        replace y1 := cell_keep hb y1
        have HBh65 := Lib.hid (HBh64.out.trans (hb.mono (by have := HBh64.out.size; omega)))
        clear hb
        refine hK.out _ _ ?_ (fun hHeld => ?_)
        · exact ⟨d0, d1, d2, d3⟩
        clear hK K
        try simp only [List.getElem_toArray, List.getElem_cons_succ, List.getElem_cons_zero, Act.put, List.setIfInBounds_toArray, List.set_cons_zero, List.set_cons_succ]
        refine wpAnyH_ready (rs := [18]) (by kernel_rfl) (by simp) ?_
        refine AllReadyH.cons rfl (fun K hK => ?_) AllReadyH.nil
        clear hHeld
        have hol := HOo.out.below HBh65.out
        have hvl : ∀ g, v.ownBlock = some g → v2.heap.size ≤ g ∧ g ≠ v2.heap.size := fun g e => ⟨(hol.1.lt g e).1, (hol.2.1 g e).1⟩
        refine step_append_lies _ (by rfl) _ _ _ (by rfl) v2.heap.size 110 j0 (.slice none 0 0) 1 24 Try.underlying42 hj hjz0 hjz1 hjz2 rfl (by omega) v RR.length vs (by rfl) hol.1 ⟨v64.heap.size, 0, none⟩ 1 1 [.slice (some ⟨g3, 0, none⟩) (l.length + m.length) q3] (by rfl) (by rfl) (fun j u hj9 => by (have h7 : j = 0 := by (have := (List.getElem?_eq_some_iff.1 hj9).1; simp at this; exact this)); subst h7; simp at hj9; subst hj9; simpa [Addr.add] using el0) (by simp [Value.oneCell']) (by omega) (by have := HRl.out; unfold maxLen; omega) (by have := HRl.out; omega) (by have := HBh65.out.size; omega) (v64.heap.size + 1) hsE ?_
        intro gg cap v66 hown hg hat hltg
        have hsn := OutL.row (O := (.cells #[.slice (some ⟨g3, 0, none⟩) (l.length + m.length) q3] 110)) (HOo.out.below HBu.out) (HK3.out.widen (by omega : wr.heap.size ≤ v61.heap.size) (Nat.le_refl _)) (by have := HBu.out.size; omega) (by omega) (by rw [HWE.out]; exact hg) hown hat hltg
        have HBn := Lib.hid ((HBl.out.trans (HBh65.out.mono (by omega : v2.heap.size ≤ wr.heap.size))).grown hg (by have := HBh65.out.size; omega) (fun g e => (hvl g e).1))
        have sz66 : v65.heap.size ≤ v66.heap.size := hg.size
        replace yf := fro_grow hg y1 yf (fun g e => by have := hvl g e; omega)
        replace d0 := cell_grow hg d0 (fun g e => by have := hvl g e; omega)
        replace d1 := cell_grow hg d1 (fun g e => by have := hvl g e; omega)
        replace d2 := cell_grow hg d2 (fun g e => by have := hvl g e; omega)
        replace d3 := cell_grow hg d3 (fun g e => by have := hvl g e; omega)
        replace y0 := cell_grow hg y0 (fun g e => by have := hvl g e; omega)
        replace y1 := cell_grow hg y1 (fun g e => by have := hvl g e; omega)
        have HSN := Lib.hid hsn
        clear hown hg hat hol hvl hsn
        refine hK.out _ _ ?_ (fun hHeld => ?_)
        · exact ⟨d0, d1, d2, d3⟩
        clear hK K
        try simp only [List.getElem_toArray, List.getElem_cons_succ, List.getElem_cons_zero, Act.put, List.setIfInBounds_toArray, List.set_cons_zero, List.set_cons_succ]
        refine wpAnyH_take (i := 19) (v := ?_) rfl (by kernel_rfl) (by kernel_rfl) (by kernel_rfl) (fun _ _ _ h => h) (Or.inl ⟨by rfl, ?_⟩) (by assumption) ?_
        rotate_left
        · intro w9 hSw; (try dsimp only at hSw); go_simp; try with_reducible rfl
        try simp only [List.getElem_toArray, List.getElem_cons_succ, List.getElem_cons_zero, Act.put, List.setIfInBounds_toArray, List.set_cons_zero, List.set_cons_succ]
        refine wpAnyH_ready (rs := [20]) (by kernel_rfl) (by simp) ?_
        refine AllReadyH.cons rfl (fun K hK => ?_) AllReadyH.nil
        clear hHeld
        go_simp
        have z1 := World.cell?_setCell_same v66 ⟨v2.heap.size, 1, none⟩ (.slice (some ⟨gg, 0, none⟩) (RR.length + 1) cap) y1
        have z0 : (v66.setCell ⟨v2.heap.size, 1, none⟩ (.slice (some ⟨gg, 0, none⟩) (RR.length + 1) cap)).cell? ⟨v2.heap.size, 0, none⟩ = some (.int .i64 n) := (World.cell?_setCell_other _ _ _ _ (by simp)).trans y0
        have zf : (v66.setCell ⟨v2.heap.size, 1, none⟩ (.slice (some ⟨gg, 0, none⟩) (RR.length + 1) cap)).frozen? ⟨v2.heap.size, 1, none⟩ = false := by rw [World.frozen?_setCell]; exact yf
        have HOz := Lib.hid (HSN.out.set 1 (.slice (some ⟨gg, 0, none⟩) (RR.length + 1) cap))
        have HBz := Lib.hid (HBn.out.setCell (p := ⟨v2.heap.size, 1, none⟩) (by show v2.heap.size ≤ v2.heap.size; omega) (.slice (some ⟨gg, 0, none⟩) (RR.length + 1) cap))
        have hsz7 : (v66.setCell ⟨v2.heap.size, 1, none⟩ (.slice (some ⟨gg, 0, none⟩) (RR.length + 1) cap)).heap.size = v66.heap.size := size_set _ _ _
        have nd0 := cell_set2 (o' := 1) d0 (by omega : w.heap.size ≠ v2.heap.size) (.slice (some ⟨gg, 0, none⟩) (RR.length + 1) cap)
        have nd1 := cell_set2 (o' := 1) d1 (by omega : bl ≠ v2.heap.size) (.slice (some ⟨gg, 0, none⟩) (RR.length + 1) cap)
        have nd2 := cell_set2 (o' := 1) d2 (by omega : w.heap.size + 1 ≠ v2.heap.size) (.slice (some ⟨gg, 0, none⟩) (RR.length + 1) cap)
        have nd3 := cell_set2 (o' := 1) d3 (by omega : bm ≠ v2.heap.size) (.slice (some ⟨gg, 0, none⟩) (RR.length + 1) cap)
        clear d0 d1 d2 d3 y0 y1 yf
        generalize hwn : (v66.setCell ⟨v2.heap.size, 1, none⟩ (.slice (some ⟨gg, 0, none⟩) (RR.length + 1) cap)) = v67 at *
        clear hwn
        have d0 := nd0
        have d1 := nd1
        have d2 := nd2
        have d3 := nd3
        clear nd0 nd1 nd2 nd3
        refine hK.out _ _ ?_ (fun hHeld => ?_)
        · exact ⟨d0, d1, d2, d3⟩
        clear hK K
        try simp only [List.getElem_toArray, List.getElem_cons_succ, List.getElem_cons_zero, Act.put, List.setIfInBounds_toArray, List.set_cons_zero, List.set_cons_succ]
        refine wpAnyH_done (by kernel_rfl) ?_ _
        refine NoPanic.normal ?_
        clear hHeld
        have HOz2 := Lib.hid (show OutL v2.heap.size v2.heap.size v67.heap.size v67 (.slice (some ⟨gg, 0, none⟩) (RR.length + 1) cap) (vs ++ [.slice (some ⟨g3, 0, none⟩) (l.length + m.length) q3]) (css ++ [cs1 ++ cs2]) (RR ++ [L1 ++ L2]) from by rw [hsz7]; exact HOz.out)
        go_wp2_with fail
        go_roundw
        case rel => exact ⟨k + 1, _, _, _, by omega, by go_num, by rw [HPA.out], by rw [HPB.out], by rw [HTK.out]; exact HOz2.out, Lib.hid ⟨z0, z1, zf⟩, HBz.out, by omega, Lib.hid (fun i hi => (Nat.lt_or_ge i k).elim (HIV.out i) (fun h9 => (Nat.le_antisymm h9 (Nat.le_of_lt_succ hi)) ▸ HGk.out))⟩
        case measure => simp [intOf]; omega
      refine AllReadyH.cons rfl (fun K hK => ?_) AllReadyH.nil
      clear hHeld
      go_simp
      have el0 : (v64.alloc (.cells #[.slice (some ⟨g3, 0, none⟩) (l.length + m.length) q3] 110)).cell? ⟨v64.heap.size, 0, none⟩ = some (.slice (some ⟨g3, 0, none⟩) (l.length + m.length) q3) := cell_new _ _ _ rfl rfl
      have hb := below_alloc v64 (.cells #[.slice (some ⟨g3, 0, none⟩) (l.length + m.length) q3] 110)
      have hsE : (v64.alloc (.cells #[.slice (some ⟨g3, 0, none⟩) (l.length + m.length) q3] 110)).heap.size = v64.heap.size + 1 := by simp
      obtain ⟨v65, hwE⟩ : ∃ W9, W9 = v64.alloc (.cells #[.slice (some ⟨g3, 0, none⟩) (l.length + m.length) q3] 110) := ⟨_, rfl⟩
      rw [← hwE] at el0 hb hsE ⊢
      have HWE := Lib.hid hwE.symm
      clear hwE
      have sz65 : v64.heap.size ≤ v65.heap.size := hb.size
      replace yf := fro_keep hb y1 yf
      replace d0 := cell_keep hb d0
      replace d1 := cell_keep hb d1
      replace d2 := cell_keep hb d2
      replace d3 := cell_keep hb d3
      replace y0 := cell_keep hb y0
      replace y1 := cell_keep hb y1
      have HBh65 := Lib.hid (HBh64.out.trans (hb.mono (by have := HBh64.out.size; omega)))
      clear hb
      refine hK.out _ _ ?_ (fun hHeld => ?_)
      · exact ⟨d0, d1, d2, d3⟩
      clear hK K
      try simp only [List.getElem_toArray, List.getElem_cons_succ, List.getElem_cons_zero, Act.put, List.setIfInBounds_toArray, List.set_cons_zero, List.set_cons_succ]
      refine wpAnyH_ready (rs := [1]) (by kernel_rfl) (by simp) ?_
      refine AllReadyH.cons rfl (fun K hK => ?_) AllReadyH.nil
      clear hHeld
      go_simp
      refine hK.out _ _ ?_ (fun hHeld => ?_)
      · exact ⟨d0, d1, d2, d3⟩
      clear hK K
      try simp only [List.getElem_toArray, List.getElem_cons_succ, List.getElem_cons_zero, Act.put, List.setIfInBounds_toArray, List.set_cons_zero, List.set_cons_succ]
      refine wpAnyH_ready (rs := [18]) (by kernel_rfl) (by simp) ?_
      refine AllReadyH.cons rfl (fun K hK => ?_) AllReadyH.nil
      clear hHeld
      have hol := HOo.out.below HBh65.out
      have hvl : ∀ g, v.ownBlock = some g → v2.heap.size ≤ g ∧ g ≠ v2.heap.size := fun g e => ⟨(hol.1.lt g e).1, (hol.2.1 g e).1⟩
      refine step_append_lies _ (by rfl) _ _ _ (by rfl) v2.heap.size 110 j0 (.slice none 0 0) 1 24 Try.underlying42 hj hjz0 hjz1 hjz2 rfl (by omega) v RR.length vs (by rfl) hol.1 ⟨v64.heap.size, 0, none⟩ 1 1 [.slice (some ⟨g3, 0, none⟩) (l.length + m.length) q3] (by rfl) (by rfl) (fun j u hj9 => by (have h7 : j = 0 := by (have := (List.getElem?_eq_some_iff.1 hj9).1; simp at this; exact this)); subst h7; simp at hj9; subst hj9; simpa [Addr.add] using el0) (by simp [Value.oneCell']) (by omega) (by have := HRl.out; unfold maxLen; omega) (by have := HRl.out; omega) (by have := HBh65.out.size; omega) (v64.heap.size + 1) hsE ?_
      intro gg cap v66 hown hg hat hltg
      have hsn := OutL.row (O := (.cells #[.slice (some ⟨g3, 0, none⟩) (l.length + m.length) q3] 110)) (HOo.out.below HBu.out) (HK3.out.widen (by omega : wr.heap.size ≤ v61.heap.size) (Nat.le_refl _)) (by have := HBu.out.size; omega) (by omega) (by rw [HWE.out]; exact hg) hown hat hltg
      have HBn := Lib.hid ((HBl.out.trans (HBh65.out.mono (by omega : v2.heap.size ≤ wr.heap.size))).grown hg (by have := HBh65.out.size; omega) (fun g e => (hvl g e).1))
      have sz66 : v65.heap.size ≤ v66.heap.size := hg.size
      replace yf := fro_grow hg y1 yf (fun g e => by have := hvl g e; omega)
      replace d0 := cell_grow hg d0 (fun g e => by have := hvl g e; omega)
      replace d1 := cell_grow hg d1 (fun g e => by have := hvl g e; omega)
      replace d2 := cell_grow hg d2 (fun g e => by have := hvl g e; omega)
      replace d3 := cell_grow hg d3 (fun g e => by have := hvl g e; omega)
      replace y0 := cell_grow hg y0 (fun g e => by have := hvl g e; omega)
      replace y1 := cell_grow hg y1 (fun g e => by have := hvl g e; omega)
      have HSN := Lib.hid hsn
      clear hown hg hat hol hvl hsn
      refine hK.out _ _ ?_ (fun hHeld => ?_)
      · exact ⟨d0, d1, d2, d3⟩
      clear hK K
      try simp only [List.getElem_toArray, List.getElem_cons_succ, List.getElem_cons_zero, Act.put, List.setIfInBounds_toArray, List.set_cons_zero, List.set_cons_succ]
      refine wpAnyH_take (i := 19) (v := ?_) rfl (by kernel_rfl) (by kernel_rfl) (by kernel_rfl) (fun _ _ _ h => h) (Or.inl ⟨by rfl, ?_⟩) (by assumption) ?_
      rotate_left
      · intro w9 hSw; (try dsimp only at hSw); go_simp; try with_reducible rfl
      try simp only [List.getElem_toArray, List.getElem_cons_succ, List.getElem_cons_zero, Act.put, List.setIfInBounds_toArray, List.set_cons_zero, List.set_cons_succ]
      refine wpAnyH_ready (rs := [20]) (by kernel_rfl) (by simp) ?_
      refine AllReadyH.cons rfl (fun K hK => ?_) AllReadyH.nil
      clear hHeld
      go_simp
      have z1 := World.cell?_setCell_same v66 ⟨v2.heap.size, 1, none⟩ (.slice (some ⟨gg, 0, none⟩) (RR.length + 1) cap) y1
      have z0 : (v66.setCell ⟨v2.heap.size, 1, none⟩ (.slice (some ⟨gg, 0, none⟩) (RR.length + 1) cap)).cell? ⟨v2.heap.size, 0, none⟩ = some (.int .i64 n) := (World.cell?_setCell_other _ _ _ _ (by simp)).trans y0
      have zf : (v66.setCell ⟨v2.heap.size, 1, none⟩ (.slice (some ⟨gg, 0, none⟩) (RR.length + 1) cap)).frozen? ⟨v2.heap.size, 1, none⟩ = false := by rw [World.frozen?_setCell]; exact yf
      have HOz := Lib.hid (HSN.out.set 1 (.slice (some ⟨gg, 0, none⟩) (RR.length + 1) cap))
      have HBz := Lib.hid (HBn.out.setCell (p := ⟨v2.heap.size, 1, none⟩) (by show v2.heap.size ≤ v2.heap.size; omega) (.slice (some ⟨gg, 0, none⟩) (RR.length + 1) cap))
      have hsz7 : (v66.setCell ⟨v2.heap.size, 1, none⟩ (.slice (some ⟨gg, 0, none⟩) (RR.length + 1) cap)).heap.size = v66.heap.size := size_set _ _ _
      have nd0 := cell_set2 (o' := 1) d0 (by omega : w.heap.size ≠ v2.heap.size) (.slice (some ⟨gg, 0, none⟩) (RR.length + 1) cap)
      have nd1 := cell_set2 (o' := 1) d1 (by omega : bl ≠ v2.heap.size) (.slice (some ⟨gg, 0, none⟩) (RR.length + 1) cap)
      have nd2 := cell_set2 (o' := 1) d2 (by omega : w.heap.size + 1 ≠ v2.heap.size) (.slice (some ⟨gg, 0, none⟩) (RR.length + 1) cap)
      have nd3 := cell_set2 (o' := 1) d3 (by omega : bm ≠ v2.heap.size) (.slice (some ⟨gg, 0, none⟩) (RR.length + 1) cap)
      clear d0 d1 d2 d3 y0 y1 yf
      generalize hwn : (v66.setCell ⟨v2.heap.size, 1, none⟩ (.slice (some ⟨gg, 0, none⟩) (RR.length + 1) cap)) = v67 at *
      clear hwn
      have d0 := nd0
      have d1 := nd1
      have d2 := nd2
      have d3 := nd3
      clear nd0 nd1 nd2 nd3
      refine hK.out _ _ ?_ (fun hHeld => ?_)
      · exact ⟨d0, d1, d2, d3⟩
      clear hK K
      try simp only [List.getElem_toArray, List.getElem_cons_succ, List.getElem_cons_zero, Act.put, List.setIfInBounds_toArray, List.set_cons_zero, List.set_cons_succ]
      refine wpAnyH_done (by kernel_rfl) ?_ _
      refine NoPanic.normal ?_
      clear hHeld
      have HOz2 := Lib.hid (show OutL v2.heap.size v2.heap.size v67.heap.size v67 (.slice (some ⟨gg, 0, none⟩) (RR.length + 1) cap) (vs ++ [.slice (some ⟨g3, 0, none⟩) (l.length + m.length) q3]) (css ++ [cs1 ++ cs2]) (RR ++ [L1 ++ L2]) from by rw [hsz7]; exact HOz.out)
      go_wp2_with fail
      go_roundw
      case rel => exact ⟨k + 1, _, _, _, by omega, by go_num, by rw [HPA.out], by rw [HPB.out], by rw [HTK.out]; exact HOz2.out, Lib.hid ⟨z0, z1, zf⟩, HBz.out, by omega, Lib.hid (fun i hi => (Nat.lt_or_ge i k).elim (HIV.out i) (fun h9 => (Nat.le_antisymm h9 (Nat.le_of_lt_succ hi)) ▸ HGk.out))⟩
      case measure => simp [intOf]; omega
    · obtain rfl : k = ls.length := by omega
      exfalso
      have := (fitJ_iff ls ms).2 HIV.out
      rw [HFI.out] at this; cases this
end Go.Proofs.Ytkbcofgigfnfaab.joins
