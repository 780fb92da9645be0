/- The model's net behind another one. -/
import Derived.Test.YtkbcofgigfnfaaaAftP
import Derived.Test.YtkbcofgigfnfaaaNetB
import Derived.Deep.RegionHeld3
import Derived.Deep.DrawnRows
namespace Go.Proofs.Ytkbcofgigfnfaaa.afts
open Go.RowKit own pp nums planes netp netb ownnet aftp stepa
set_option linter.unusedVariables false
set_option linter.unusedSimpArgs false

theorem cell_keep {W W' : World} (h : Below W.heap.size W W') {b o : Nat} {x : Value} (hx : W.cell? ⟨b, o, none⟩ = some x) : W'.cell? ⟨b, o, none⟩ = some x :=
  cell_below h hx (block_lt_of_cell (a := ⟨b, o, none⟩) hx)
theorem fro_keep {W W' : World} (h : Below W.heap.size W W') {b o o' : Nat} {x : Value} (hx : W.cell? ⟨b, o', none⟩ = some x) (hf : W.frozen? ⟨b, o, none⟩ = false) : W'.frozen? ⟨b, o, none⟩ = false :=
  fro_below h hf (block_lt_of_cell (a := ⟨b, o', none⟩) hx)
theorem cell_grow {W W' : World} {row : Option Nat} (h : W.grownBy W' row) {b o : Nat} {x : Value} (hx : W.cell? ⟨b, o, none⟩ = some x) (hne : ∀ g, row = some g → b ≠ g) : W'.cell? ⟨b, o, none⟩ = some x :=
  (World.cell?_of_block (h.block b (block_lt_of_cell (a := ⟨b, o, none⟩) hx) (fun e => hne b e.symm rfl))).trans hx
theorem fro_grow {W W' : World} {row : Option Nat} (h : W.grownBy W' row) {b o o' : Nat} {x : Value} (hx : W.cell? ⟨b, o', none⟩ = some x) (hf : W.frozen? ⟨b, o, none⟩ = false) (hne : ∀ g, row = some g → b ≠ g) : W'.frozen? ⟨b, o, none⟩ = false :=
  (World.frozen?_of_block (a := ⟨b, o, none⟩) (h.block b (block_lt_of_cell (a := ⟨b, o', none⟩) hx) (fun e => hne b e.symm rfl))).trans hf
theorem own_grow {W W' : World} {row : Option Nat} (h : W.grownBy W' row) {lo hi : Nat} {v : Value} {zs : List Int} (ho : OwnI lo hi W v zs) (hne : ∀ g, row = some g → g < lo ∨ hi ≤ g) : OwnI lo hi W' v zs :=
  ho.block fun g hg => h.block g (ho.lt hg).2.2 (fun e => by have := hne g e.symm; have := ho.lt hg; omega)
theorem cell_set2 {W : World} {b o b' o' : Nat} {x : Value} (hx : W.cell? ⟨b, o, none⟩ = some x) (hne : b ≠ b') (u : Value) : (W.setCell ⟨b', o', none⟩ u).cell? ⟨b, o, none⟩ = some x :=
  (World.cell?_of_block (Below.heap_setCell _ _ _ _ (by show b ≠ b'; exact hne))).trans hx
theorem grown_set (W : World) (b o : Nat) (u : Value) : W.grownBy (W.setCell ⟨b, o, none⟩ u) (some b) :=
  ⟨rfl, rfl, rfl, by rw [size_set]; exact Nat.le_refl _, fun k hk hne => Below.heap_setCell _ _ _ _ (fun e => hne (by rw [e]))⟩
theorem grown_trans {W W1 W2 : World} {row : Option Nat} (h : W.grownBy W1 row) (k : W1.grownBy W2 row) : W.grownBy W2 row :=
  ⟨k.os.trans h.os, k.tape.trans h.tape, k.output.trans h.output, Nat.le_trans h.size k.size, fun i hi hn => (k.block i (Nat.lt_of_lt_of_le hi h.size) hn).trans (h.block i hi hn)⟩
set_option maxRecDepth 100000 in
set_option maxHeartbeats 1600000 in
theorem spec_an_no (a : Option Addr) (ls : List (List (List Int × Int))) (c : Nat) (n : Int) (a' : Option Addr) (ms : List (List (List Int × Int))) (c' : Nat) (n' : Int) (w : World) (hr : ReadsL w a ls) (hq : ReadsL w a' ms) (hn : ls.length ≤ 1048576) (hk : ms.length ≤ 1048576) (hm : ∀ x ∈ ls, x.length ≤ 1048576 ∧ ∀ y ∈ x, y.1.length ≤ 1048576) (hp : ∀ x ∈ ms, x.length ≤ 1048576 ∧ ∀ y ∈ x, y.1.length ≤ 1048576) (h : anB n ls n' ms = false) :
    Calls Try.prog 49 #[.agg #[.int .i64 n, .slice a ls.length c], .agg #[.int .i64 n', .slice a' ms.length c']] w (RetTB [] 0 false w) := by
  have Hhr := Lib.hid hr
  have Hhq := Lib.hid hq
  have Hhm := Lib.hid hm
  have Hhp := Lib.hid hp
  clear hr hq hm hp
  cases h0 : netB n ls
  · have HN0 := Lib.hid h0
    clear h h0
    go_enter Try.func49, Try.ntmps49
    obtain ⟨wb1, hw1⟩ : ∃ wb1 : World, wb1 = w.alloc (.cells #[.int .i64 n, .slice a ls.length c] 65) := ⟨_, rfl⟩
    obtain ⟨wb2, hw2⟩ : ∃ wb2 : World, wb2 = wb1.alloc (.cells #[.int .i64 n', .slice a' ms.length c'] 65) := ⟨_, rfl⟩
    obtain ⟨wb3, hw3⟩ : ∃ wb3 : World, wb3 = wb2.alloc (.cells #[.int .i64 0, .slice none 0 0] 65) := ⟨_, rfl⟩
    have z1 : wb1.heap.size = w.heap.size + 1 := by rw [hw1]; simp
    have z2 : wb2.heap.size = w.heap.size + 2 := by rw [hw2]; simp; omega
    have z3 : wb3.heap.size = w.heap.size + 3 := by rw [hw3]; simp; omega
    have x0_0 := (by rw [hw3]; exact cell_old _ (by rw [hw2]; exact cell_old _ (by rw [hw1]; exact cell_new _ _ _ rfl rfl : wb1.cell? ⟨w.heap.size, 0, none⟩ = some (.int .i64 n)) : wb2.cell? ⟨w.heap.size, 0, none⟩ = some (.int .i64 n)) : wb3.cell? ⟨w.heap.size, 0, none⟩ = some (.int .i64 n))
    have x0_1 := (by rw [hw3]; exact cell_old _ (by rw [hw2]; exact cell_old _ (by rw [hw1]; exact cell_new _ _ _ rfl rfl : wb1.cell? ⟨w.heap.size, 1, none⟩ = some (.slice a ls.length c)) : wb2.cell? ⟨w.heap.size, 1, none⟩ = some (.slice a ls.length c)) : wb3.cell? ⟨w.heap.size, 1, none⟩ = some (.slice a ls.length c))
    have x1_0 := (by rw [hw3]; exact cell_old _ (by rw [hw2]; exact cell_new _ _ _ z1.symm rfl : wb2.cell? ⟨w.heap.size + 1, 0, none⟩ = some (.int .i64 n')) : wb3.cell? ⟨w.heap.size + 1, 0, none⟩ = some (.int .i64 n'))
    have x1_1 := (by rw [hw3]; exact cell_old _ (by rw [hw2]; exact cell_new _ _ _ z1.symm rfl : wb2.cell? ⟨w.heap.size + 1, 1, none⟩ = some (.slice a' ms.length c')) : wb3.cell? ⟨w.heap.size + 1, 1, none⟩ = some (.slice a' ms.length c'))
    have x2_0 := (by rw [hw3]; exact cell_new _ _ _ z2.symm rfl : wb3.cell? ⟨w.heap.size + 2, 0, none⟩ = some (.int .i64 0))
    have x2_1 := (by rw [hw3]; exact cell_new _ _ _ z2.symm rfl : wb3.cell? ⟨w.heap.size + 2, 1, none⟩ = some (.slice none 0 0))
    have HB0 := Lib.hid (show Below w.heap.size w wb3 by rw [hw3]; exact (show Below w.heap.size w wb2 by rw [hw2]; exact (show Below w.heap.size w wb1 by rw [hw1]; exact (Below.refl w.heap.size w).alloc (Nat.le_refl _) _).alloc (by omega) _).alloc (by omega) _)
    have s3 : w.heap.size + 3 ≤ wb3.heap.size := by omega
    have f2_0 := (by rw [hw3]; exact fro_new _ _ _ z2.symm : wb3.frozen? ⟨w.heap.size + 2, 0, none⟩ = false)
    have f2_1 := (by rw [hw3]; exact fro_new _ _ _ z2.symm : wb3.frozen? ⟨w.heap.size + 2, 1, none⟩ = false)
    have HZ3 := Lib.hid z3
    clear z1 z2 z3
    go_wp2_with fail
    rw [← hw1, ← hw2, ← hw3]
    clear hw1 hw2 hw3
    have HG := Lib.hid (show ∀ wa : World, Below wb3.heap.size wb3 wa → Calls Try.prog 105 #[.agg #[.int .i64 n, .slice a ls.length c]] wa (RetB false wa) from fun wa hb => spec_good _ ls c n wa ((Hhr.out.below HB0.out).below hb) hn Hhm.out false HN0)
    refine wp_region_noPanic ?_
    refine wp_region_held_drew (S := fun w' => w'.cell? ⟨w.heap.size, 0, none⟩ = some (.int .i64 n) ∧ w'.cell? ⟨w.heap.size, 1, none⟩ = some (.slice a ls.length c) ∧ w'.cell? ⟨w.heap.size + 1, 0, none⟩ = some (.int .i64 n') ∧ w'.cell? ⟨w.heap.size + 1, 1, none⟩ = some (.slice a' ms.length c')) (by kernel_rfl) ?_ (fun hHeld => ?_)
    · exact ⟨x0_0, x0_1, x1_0, x1_1⟩
    refine wpAnyH_take (i := 0) (v := ?_) rfl (by kernel_rfl) (by kernel_rfl) (by kernel_rfl) (fun _ _ _ h => h) (Or.inl ⟨by rfl, ?_⟩) (by assumption) ?_
    rotate_left
    · intro w9 hSw; (try dsimp only at hSw); go_simp; try with_reducible rfl
    try simp only [List.getElem_toArray, List.getElem_cons_succ, List.getElem_cons_zero, Act.put, List.setIfInBounds_toArray, List.set_cons_zero, List.set_cons_succ]
    refine wpAnyH_ready (rs := [1]) (by kernel_rfl) (by simp) ?_
    refine AllReadyH.cons rfl (fun K hK => ?_) AllReadyH.nil
    clear hHeld
    go_simp
    refine (HG.out _ (Below.refl _ _).drew).mono ?_
    rintro e' v1 ⟨rfl, hb⟩
    have HCv1 := Lib.hid ((Below.refl wb3.heap.size wb3).drew.trans hb)
    have sv1 := HCv1.out.size
    clear hb
    have mv1_0 := cell_below HCv1.out x0_0 (by omega)
    have mv1_1 := cell_below HCv1.out x0_1 (by omega)
    have mv1_2 := cell_below HCv1.out x1_0 (by omega)
    have mv1_3 := cell_below HCv1.out x1_1 (by omega)
    refine hK.out _ _ ?_ (fun hHeld => ?_)
    · exact ⟨mv1_0, mv1_1, mv1_2, mv1_3⟩
    clear hK K
    try simp only [List.getElem_toArray, List.getElem_cons_succ, List.getElem_cons_zero, Act.put, List.setIfInBounds_toArray, List.set_cons_zero, List.set_cons_succ]
    refine wpAnyH_take (i := 2) (v := ?_) rfl (by kernel_rfl) (by kernel_rfl) (by kernel_rfl) (fun _ _ _ h => h) (Or.inl ⟨by rfl, ?_⟩) (by assumption) ?_
    rotate_left
    · intro w9 hSw; (try dsimp only at hSw); go_simp; try with_reducible rfl
    try simp only [List.getElem_toArray, List.getElem_cons_succ, List.getElem_cons_zero, Act.put, List.setIfInBounds_toArray, List.set_cons_zero, List.set_cons_succ]
    refine wpAnyH_take (i := 3) (v := ?_) rfl (by kernel_rfl) (by kernel_rfl) (by kernel_rfl) (fun _ _ _ h => h) (Or.inl ⟨by rfl, ?_⟩) (by assumption) ?_
    rotate_left
    · intro w9 hSw; (try dsimp only at hSw); go_simp; try with_reducible rfl
    try simp only [List.getElem_toArray, List.getElem_cons_succ, List.getElem_cons_zero, Act.put, List.setIfInBounds_toArray, List.set_cons_zero, List.set_cons_succ]
    refine wpAnyH_take (i := 4) (v := undef) rfl (by kernel_rfl) (by kernel_rfl) (by kernel_rfl) (fun _ _ _ h => h) (Or.inr ⟨by rfl, rfl⟩) (by assumption) ?_
    try simp only [List.getElem_toArray, List.getElem_cons_succ, List.getElem_cons_zero, Act.put, List.setIfInBounds_toArray, List.set_cons_zero, List.set_cons_succ]
    refine wpAnyH_take (i := 5) (v := undef) rfl (by kernel_rfl) (by kernel_rfl) (by kernel_rfl) (fun _ _ _ h => h) (Or.inr ⟨by rfl, rfl⟩) (by assumption) ?_
    try simp only [List.getElem_toArray, List.getElem_cons_succ, List.getElem_cons_zero, Act.put, List.setIfInBounds_toArray, List.set_cons_zero, List.set_cons_succ]
    refine wpAnyH_take (i := 6) (v := undef) rfl (by kernel_rfl) (by kernel_rfl) (by kernel_rfl) (fun _ _ _ h => h) (Or.inr ⟨by rfl, rfl⟩) (by assumption) ?_
    try simp only [List.getElem_toArray, List.getElem_cons_succ, List.getElem_cons_zero, Act.put, List.setIfInBounds_toArray, List.set_cons_zero, List.set_cons_succ]
    refine wpAnyH_take (i := 7) (v := ?_) rfl (by kernel_rfl) (by kernel_rfl) (by kernel_rfl) (fun _ _ _ h => h) (Or.inl ⟨by rfl, ?_⟩) (by assumption) ?_
    rotate_left
    · intro w9 hSw; (try dsimp only at hSw); go_simp; try with_reducible rfl
    try simp only [List.getElem_toArray, List.getElem_cons_succ, List.getElem_cons_zero, Act.put, List.setIfInBounds_toArray, List.set_cons_zero, List.set_cons_succ]
    refine wpAnyH_take (i := 8) (v := ?_) rfl (by kernel_rfl) (by kernel_rfl) (by kernel_rfl) (fun _ _ _ h => h) (Or.inl ⟨by rfl, ?_⟩) (by assumption) ?_
    rotate_left
    · intro w9 hSw; (try dsimp only at hSw); go_simp; try with_reducible rfl
    try simp only [List.getElem_toArray, List.getElem_cons_succ, List.getElem_cons_zero, Act.put, List.setIfInBounds_toArray, List.set_cons_zero, List.set_cons_succ]
    refine wpAnyH_take (i := 9) (v := undef) rfl (by kernel_rfl) (by kernel_rfl) (by kernel_rfl) (fun _ _ _ h => h) (Or.inr ⟨by rfl, rfl⟩) (by assumption) ?_
    try simp only [List.getElem_toArray, List.getElem_cons_succ, List.getElem_cons_zero, Act.put, List.setIfInBounds_toArray, List.set_cons_zero, List.set_cons_succ]
    refine wpAnyH_take (i := 10) (v := undef) rfl (by kernel_rfl) (by kernel_rfl) (by kernel_rfl) (fun _ _ _ h => h) (Or.inr ⟨by rfl, rfl⟩) (by assumption) ?_
    try simp only [List.getElem_toArray, List.getElem_cons_succ, List.getElem_cons_zero, Act.put, List.setIfInBounds_toArray, List.set_cons_zero, List.set_cons_succ]
    refine wpAnyH_take (i := 11) (v := undef) rfl (by kernel_rfl) (by kernel_rfl) (by kernel_rfl) (fun _ _ _ h => h) (Or.inr ⟨by rfl, rfl⟩) (by assumption) ?_
    try simp only [List.getElem_toArray, List.getElem_cons_succ, List.getElem_cons_zero, Act.put, List.setIfInBounds_toArray, List.set_cons_zero, List.set_cons_succ]
    refine wpAnyH_take (i := 12) (v := undef) rfl (by kernel_rfl) (by kernel_rfl) (by kernel_rfl) (fun _ _ _ h => h) (Or.inr ⟨by rfl, rfl⟩) (by assumption) ?_
    try simp only [List.getElem_toArray, List.getElem_cons_succ, List.getElem_cons_zero, Act.put, List.setIfInBounds_toArray, List.set_cons_zero, List.set_cons_succ]
    refine wpAnyH_take (i := 13) (v := undef) rfl (by kernel_rfl) (by kernel_rfl) (by kernel_rfl) (fun _ _ _ h => h) (Or.inr ⟨by rfl, rfl⟩) (by assumption) ?_
    try simp only [List.getElem_toArray, List.getElem_cons_succ, List.getElem_cons_zero, Act.put, List.setIfInBounds_toArray, List.set_cons_zero, List.set_cons_succ]
    refine wpAnyH_take (i := 14) (v := undef) rfl (by kernel_rfl) (by kernel_rfl) (by kernel_rfl) (fun _ _ _ h => h) (Or.inr ⟨by rfl, rfl⟩) (by assumption) ?_
    try simp only [List.getElem_toArray, List.getElem_cons_succ, List.getElem_cons_zero, Act.put, List.setIfInBounds_toArray, List.set_cons_zero, List.set_cons_succ]
    refine wpAnyH_take (i := 15) (v := undef) rfl (by kernel_rfl) (by kernel_rfl) (by kernel_rfl) (fun _ _ _ h => h) (Or.inr ⟨by rfl, rfl⟩) (by assumption) ?_
    try simp only [List.getElem_toArray, List.getElem_cons_succ, List.getElem_cons_zero, Act.put, List.setIfInBounds_toArray, List.set_cons_zero, List.set_cons_succ]
    refine wpAnyH_take (i := 16) (v := undef) rfl (by kernel_rfl) (by kernel_rfl) (by kernel_rfl) (fun _ _ _ h => h) (Or.inr ⟨by rfl, rfl⟩) (by assumption) ?_
    try simp only [List.getElem_toArray, List.getElem_cons_succ, List.getElem_cons_zero, Act.put, List.setIfInBounds_toArray, List.set_cons_zero, List.set_cons_succ]
    refine wpAnyH_take (i := 17) (v := undef) rfl (by kernel_rfl) (by kernel_rfl) (by kernel_rfl) (fun _ _ _ h => h) (Or.inr ⟨by rfl, rfl⟩) (by assumption) ?_
    try simp only [List.getElem_toArray, List.getElem_cons_succ, List.getElem_cons_zero, Act.put, List.setIfInBounds_toArray, List.set_cons_zero, List.set_cons_succ]
    refine wpAnyH_take (i := 18) (v := undef) rfl (by kernel_rfl) (by kernel_rfl) (by kernel_rfl) (fun _ _ _ h => h) (Or.inr ⟨by rfl, rfl⟩) (by assumption) ?_
    try simp only [List.getElem_toArray, List.getElem_cons_succ, List.getElem_cons_zero, Act.put, List.setIfInBounds_toArray, List.set_cons_zero, List.set_cons_succ]
    refine wpAnyH_take (i := 19) (v := undef) rfl (by kernel_rfl) (by kernel_rfl) (by kernel_rfl) (fun _ _ _ h => h) (Or.inr ⟨by rfl, rfl⟩) (by assumption) ?_
    try simp only [List.getElem_toArray, List.getElem_cons_succ, List.getElem_cons_zero, Act.put, List.setIfInBounds_toArray, List.set_cons_zero, List.set_cons_succ]
    refine wpAnyH_take (i := 20) (v := undef) rfl (by kernel_rfl) (by kernel_rfl) (by kernel_rfl) (fun _ _ _ h => h) (Or.inr ⟨by rfl, rfl⟩) (by assumption) ?_
    try simp only [List.getElem_toArray, List.getElem_cons_succ, List.getElem_cons_zero, Act.put, List.setIfInBounds_toArray, List.set_cons_zero, List.set_cons_succ]
    refine wpAnyH_take (i := 21) (v := ?_) rfl (by kernel_rfl) (by kernel_rfl) (by kernel_rfl) (fun _ _ _ h => h) (Or.inl ⟨by rfl, ?_⟩) (by assumption) ?_
    rotate_left
    · intro w9 hSw; (try dsimp only at hSw); go_simp; try with_reducible rfl
    try simp only [List.getElem_toArray, List.getElem_cons_succ, List.getElem_cons_zero, Act.put, List.setIfInBounds_toArray, List.set_cons_zero, List.set_cons_succ]
    refine wpAnyH_take (i := 22) (v := ?_) rfl (by kernel_rfl) (by kernel_rfl) (by kernel_rfl) (fun _ _ _ h => h) (Or.inl ⟨by rfl, ?_⟩) (by assumption) ?_
    rotate_left
    · intro w9 hSw; (try dsimp only at hSw); go_simp; try with_reducible rfl
    try simp only [List.getElem_toArray, List.getElem_cons_succ, List.getElem_cons_zero, Act.put, List.setIfInBounds_toArray, List.set_cons_zero, List.set_cons_succ]
    refine wpAnyH_take (i := 23) (v := undef) rfl (by kernel_rfl) (by kernel_rfl) (by kernel_rfl) (fun _ _ _ h => h) (Or.inr ⟨by rfl, rfl⟩) (by assumption) ?_
    try simp only [List.getElem_toArray, List.getElem_cons_succ, List.getElem_cons_zero, Act.put, List.setIfInBounds_toArray, List.set_cons_zero, List.set_cons_succ]
    refine wpAnyH_take (i := 24) (v := undef) rfl (by kernel_rfl) (by kernel_rfl) (by kernel_rfl) (fun _ _ _ h => h) (Or.inr ⟨by rfl, rfl⟩) (by assumption) ?_
    try simp only [List.getElem_toArray, List.getElem_cons_succ, List.getElem_cons_zero, Act.put, List.setIfInBounds_toArray, List.set_cons_zero, List.set_cons_succ]
    refine wpAnyH_take (i := 25) (v := undef) rfl (by kernel_rfl) (by kernel_rfl) (by kernel_rfl) (fun _ _ _ h => h) (Or.inr ⟨by rfl, rfl⟩) (by assumption) ?_
    try simp only [List.getElem_toArray, List.getElem_cons_succ, List.getElem_cons_zero, Act.put, List.setIfInBounds_toArray, List.set_cons_zero, List.set_cons_succ]
    refine wpAnyH_take (i := 26) (v := undef) rfl (by kernel_rfl) (by kernel_rfl) (by kernel_rfl) (fun _ _ _ h => h) (Or.inr ⟨by rfl, rfl⟩) (by assumption) ?_
    try simp only [List.getElem_toArray, List.getElem_cons_succ, List.getElem_cons_zero, Act.put, List.setIfInBounds_toArray, List.set_cons_zero, List.set_cons_succ]
    refine wpAnyH_take (i := 27) (v := undef) rfl (by kernel_rfl) (by kernel_rfl) (by kernel_rfl) (fun _ _ _ h => h) (Or.inr ⟨by rfl, rfl⟩) (by assumption) ?_
    try simp only [List.getElem_toArray, List.getElem_cons_succ, List.getElem_cons_zero, Act.put, List.setIfInBounds_toArray, List.set_cons_zero, List.set_cons_succ]
    refine wpAnyH_take (i := 28) (v := undef) rfl (by kernel_rfl) (by kernel_rfl) (by kernel_rfl) (fun _ _ _ h => h) (Or.inr ⟨by rfl, rfl⟩) (by assumption) ?_
    try simp only [List.getElem_toArray, List.getElem_cons_succ, List.getElem_cons_zero, Act.put, List.setIfInBounds_toArray, List.set_cons_zero, List.set_cons_succ]
    refine wpAnyH_take (i := 29) (v := undef) rfl (by kernel_rfl) (by kernel_rfl) (by kernel_rfl) (fun _ _ _ h => h) (Or.inr ⟨by rfl, rfl⟩) (by assumption) ?_
    try simp only [List.getElem_toArray, List.getElem_cons_succ, List.getElem_cons_zero, Act.put, List.setIfInBounds_toArray, List.set_cons_zero, List.set_cons_succ]
    refine wpAnyH_take (i := 30) (v := undef) rfl (by kernel_rfl) (by kernel_rfl) (by kernel_rfl) (fun _ _ _ h => h) (Or.inr ⟨by rfl, rfl⟩) (by assumption) ?_
    try simp only [List.getElem_toArray, List.getElem_cons_succ, List.getElem_cons_zero, Act.put, List.setIfInBounds_toArray, List.set_cons_zero, List.set_cons_succ]
    refine wpAnyH_take (i := 31) (v := ?_) rfl (by kernel_rfl) (by kernel_rfl) (by kernel_rfl) (fun _ _ _ h => h) (Or.inl ⟨by rfl, ?_⟩) (by assumption) ?_
    rotate_left
    · intro w9 hSw; (try dsimp only at hSw); go_simp; try with_reducible rfl
    try simp only [List.getElem_toArray, List.getElem_cons_succ, List.getElem_cons_zero, Act.put, List.setIfInBounds_toArray, List.set_cons_zero, List.set_cons_succ]
    refine wpAnyH_done (by kernel_rfl) ?_ _
    refine NoPanic.normal ?_
    replace x2_0 := cell_below HCv1.out x2_0 (by omega)
    replace x2_1 := cell_below HCv1.out x2_1 (by omega)
    replace f2_0 := fro_below HCv1.out f2_0 (by omega)
    replace f2_1 := fro_below HCv1.out f2_1 (by omega)
    have HBn := Lib.hid (HB0.out.trans (HCv1.out.mono (by omega)))
    go_wp2_with fail
    refine bodyPost_ret (v := .tuple #[.agg #[.int .i64 0, .slice none 0 0], .bool false]) (by simp [results, Try.results49, go_sem, x2_0, x2_1, f2_0, f2_1]) rfl ⟨_, rfl, ?_, ?_⟩
    · exact OwnL.nil _ _ _
    · exact ((HBn.out.setCell (by simp; omega) _).setCell (by simp; omega) _)
  have HN0 := Lib.hid h0
  cases h1 : netB n' ms
  · have HN1 := Lib.hid h1
    clear h h0 h1
    go_enter Try.func49, Try.ntmps49
    obtain ⟨wb1, hw1⟩ : ∃ wb1 : World, wb1 = w.alloc (.cells #[.int .i64 n, .slice a ls.length c] 65) := ⟨_, rfl⟩
    obtain ⟨wb2, hw2⟩ : ∃ wb2 : World, wb2 = wb1.alloc (.cells #[.int .i64 n', .slice a' ms.length c'] 65) := ⟨_, rfl⟩
    obtain ⟨wb3, hw3⟩ : ∃ wb3 : World, wb3 = wb2.alloc (.cells #[.int .i64 0, .slice none 0 0] 65) := ⟨_, rfl⟩
    have z1 : wb1.heap.size = w.heap.size + 1 := by rw [hw1]; simp
    have z2 : wb2.heap.size = w.heap.size + 2 := by rw [hw2]; simp; omega
    have z3 : wb3.heap.size = w.heap.size + 3 := by rw [hw3]; simp; omega
    have x0_0 := (by rw [hw3]; exact cell_old _ (by rw [hw2]; exact cell_old _ (by rw [hw1]; exact cell_new _ _ _ rfl rfl : wb1.cell? ⟨w.heap.size, 0, none⟩ = some (.int .i64 n)) : wb2.cell? ⟨w.heap.size, 0, none⟩ = some (.int .i64 n)) : wb3.cell? ⟨w.heap.size, 0, none⟩ = some (.int .i64 n))
    have x0_1 := (by rw [hw3]; exact cell_old _ (by rw [hw2]; exact cell_old _ (by rw [hw1]; exact cell_new _ _ _ rfl rfl : wb1.cell? ⟨w.heap.size, 1, none⟩ = some (.slice a ls.length c)) : wb2.cell? ⟨w.heap.size, 1, none⟩ = some (.slice a ls.length c)) : wb3.cell? ⟨w.heap.size, 1, none⟩ = some (.slice a ls.length c))
    have x1_0 := (by rw [hw3]; exact cell_old _ (by rw [hw2]; exact cell_new _ _ _ z1.symm rfl : wb2.cell? ⟨w.heap.size + 1, 0, none⟩ = some (.int .i64 n')) : wb3.cell? ⟨w.heap.size + 1, 0, none⟩ = some (.int .i64 n'))
    have x1_1 := (by rw [hw3]; exact cell_old _ (by rw [hw2]; exact cell_new _ _ _ z1.symm rfl : wb2.cell? ⟨w.heap.size + 1, 1, none⟩ = some (.slice a' ms.length c')) : wb3.cell? ⟨w.heap.size + 1, 1, none⟩ = some (.slice a' ms.length c'))
    have x2_0 := (by rw [hw3]; exact cell_new _ _ _ z2.symm rfl : wb3.cell? ⟨w.heap.size + 2, 0, none⟩ = some (.int .i64 0))
    have x2_1 := (by rw [hw3]; exact cell_new _ _ _ z2.symm rfl : wb3.cell? ⟨w.heap.size + 2, 1, none⟩ = some (.slice none 0 0))
    have HB0 := Lib.hid (show Below w.heap.size w wb3 by rw [hw3]; exact (show Below w.heap.size w wb2 by rw [hw2]; exact (show Below w.heap.size w wb1 by rw [hw1]; exact (Below.refl w.heap.size w).alloc (Nat.le_refl _) _).alloc (by omega) _).alloc (by omega) _)
    have s3 : w.heap.size + 3 ≤ wb3.heap.size := by omega
    have f2_0 := (by rw [hw3]; exact fro_new _ _ _ z2.symm : wb3.frozen? ⟨w.heap.size + 2, 0, none⟩ = false)
    have f2_1 := (by rw [hw3]; exact fro_new _ _ _ z2.symm : wb3.frozen? ⟨w.heap.size + 2, 1, none⟩ = false)
    have HZ3 := Lib.hid z3
    clear z1 z2 z3
    go_wp2_with fail
    rw [← hw1, ← hw2, ← hw3]
    clear hw1 hw2 hw3
    have HG := Lib.hid (show ∀ wa : World, Below wb3.heap.size wb3 wa → Calls Try.prog 105 #[.agg #[.int .i64 n, .slice a ls.length c]] wa (RetB true wa) from fun wa hb => spec_good _ ls c n wa ((Hhr.out.below HB0.out).below hb) hn Hhm.out true HN0)
    have HH := Lib.hid (show ∀ wa : World, Below wb3.heap.size wb3 wa → Calls Try.prog 105 #[.agg #[.int .i64 n', .slice a' ms.length c']] wa (RetB false wa) from fun wa hb => spec_good a' ms c' n' wa ((Hhq.out.below HB0.out).below hb) hk Hhp.out false HN1)
    refine wp_region_noPanic ?_
    refine wp_region_held_drew (S := fun w' => w'.cell? ⟨w.heap.size, 0, none⟩ = some (.int .i64 n) ∧ w'.cell? ⟨w.heap.size, 1, none⟩ = some (.slice a ls.length c) ∧ w'.cell? ⟨w.heap.size + 1, 0, none⟩ = some (.int .i64 n') ∧ w'.cell? ⟨w.heap.size + 1, 1, none⟩ = some (.slice a' ms.length c')) (by kernel_rfl) ?_ (fun hHeld => ?_)
    · exact ⟨x0_0, x0_1, x1_0, x1_1⟩
    refine wpAnyH_take (i := 0) (v := ?_) rfl (by kernel_rfl) (by kernel_rfl) (by kernel_rfl) (fun _ _ _ h => h) (Or.inl ⟨by rfl, ?_⟩) (by assumption) ?_
    rotate_left
    · intro w9 hSw; (try dsimp only at hSw); go_simp; try with_reducible rfl
    try simp only [List.getElem_toArray, List.getElem_cons_succ, List.getElem_cons_zero, Act.put, List.setIfInBounds_toArray, List.set_cons_zero, List.set_cons_succ]
    refine wpAnyH_ready (rs := [1]) (by kernel_rfl) (by simp) ?_
    refine AllReadyH.cons rfl (fun K hK => ?_) AllReadyH.nil
    clear hHeld
    go_simp
    refine (HG.out _ (Below.refl _ _).drew).mono ?_
    rintro e' v1 ⟨rfl, hb⟩
    have HCv1 := Lib.hid ((Below.refl wb3.heap.size wb3).drew.trans hb)
    have sv1 := HCv1.out.size
    clear hb
    have mv1_0 := cell_below HCv1.out x0_0 (by omega)
    have mv1_1 := cell_below HCv1.out x0_1 (by omega)
    have mv1_2 := cell_below HCv1.out x1_0 (by omega)
    have mv1_3 := cell_below HCv1.out x1_1 (by omega)
    refine hK.out _ _ ?_ (fun hHeld => ?_)
    · exact ⟨mv1_0, mv1_1, mv1_2, mv1_3⟩
    clear hK K
    try simp only [List.getElem_toArray, List.getElem_cons_succ, List.getElem_cons_zero, Act.put, List.setIfInBounds_toArray, List.set_cons_zero, List.set_cons_succ]
    refine wpAnyH_take (i := 2) (v := ?_) rfl (by kernel_rfl) (by kernel_rfl) (by kernel_rfl) (fun _ _ _ h => h) (Or.inl ⟨by rfl, ?_⟩) (by assumption) ?_
    rotate_left
    · intro w9 hSw; (try dsimp only at hSw); go_simp; try with_reducible rfl
    try simp only [List.getElem_toArray, List.getElem_cons_succ, List.getElem_cons_zero, Act.put, List.setIfInBounds_toArray, List.set_cons_zero, List.set_cons_succ]
    refine wpAnyH_take (i := 3) (v := ?_) rfl (by kernel_rfl) (by kernel_rfl) (by kernel_rfl) (fun _ _ _ h => h) (Or.inl ⟨by rfl, ?_⟩) (by assumption) ?_
    rotate_left
    · intro w9 hSw; (try dsimp only at hSw); go_simp; try with_reducible rfl
    try simp only [List.getElem_toArray, List.getElem_cons_succ, List.getElem_cons_zero, Act.put, List.setIfInBounds_toArray, List.set_cons_zero, List.set_cons_succ]
    refine wpAnyH_take (i := 4) (v := ?_) rfl (by kernel_rfl) (by kernel_rfl) (by kernel_rfl) (fun _ _ _ h => h) (Or.inl ⟨by rfl, ?_⟩) (by assumption) ?_
    rotate_left
    · intro w9 hSw; (try dsimp only at hSw); go_simp; try with_reducible rfl
    try simp only [List.getElem_toArray, List.getElem_cons_succ, List.getElem_cons_zero, Act.put, List.setIfInBounds_toArray, List.set_cons_zero, List.set_cons_succ]
    refine wpAnyH_ready (rs := [5]) (by kernel_rfl) (by simp) ?_
    refine AllReadyH.cons rfl (fun K hK => ?_) AllReadyH.nil
    clear hHeld
    go_simp
    refine (HH.out _ HCv1.out).mono ?_
    rintro e' v2 ⟨rfl, hb⟩
    have HCv2 := Lib.hid (HCv1.out.trans (hb.mono HCv1.out.size))
    have sv2 := HCv2.out.size
    clear hb
    have mv2_0 := cell_below HCv2.out x0_0 (by omega)
    have mv2_1 := cell_below HCv2.out x0_1 (by omega)
    have mv2_2 := cell_below HCv2.out x1_0 (by omega)
    have mv2_3 := cell_below HCv2.out x1_1 (by omega)
    refine hK.out _ _ ?_ (fun hHeld => ?_)
    · exact ⟨mv2_0, mv2_1, mv2_2, mv2_3⟩
    clear hK K
    try simp only [List.getElem_toArray, List.getElem_cons_succ, List.getElem_cons_zero, Act.put, List.setIfInBounds_toArray, List.set_cons_zero, List.set_cons_succ]
    refine wpAnyH_take (i := 6) (v := ?_) rfl (by kernel_rfl) (by kernel_rfl) (by kernel_rfl) (fun _ _ _ h => h) (Or.inl ⟨by rfl, ?_⟩) (by assumption) ?_
    rotate_left
    · intro w9 hSw; (try dsimp only at hSw); go_simp; try with_reducible rfl
    try simp only [List.getElem_toArray, List.getElem_cons_succ, List.getElem_cons_zero, Act.put, List.setIfInBounds_toArray, List.set_cons_zero, List.set_cons_succ]
    refine wpAnyH_take (i := 7) (v := ?_) rfl (by kernel_rfl) (by kernel_rfl) (by kernel_rfl) (fun _ _ _ h => h) (Or.inl ⟨by rfl, ?_⟩) (by assumption) ?_
    rotate_left
    · intro w9 hSw; (try dsimp only at hSw); go_simp; try with_reducible rfl
    try simp only [List.getElem_toArray, List.getElem_cons_succ, List.getElem_cons_zero, Act.put, List.setIfInBounds_toArray, List.set_cons_zero, List.set_cons_succ]
    refine wpAnyH_take (i := 8) (v := ?_) rfl (by kernel_rfl) (by kernel_rfl) (by kernel_rfl) (fun _ _ _ h => h) (Or.inl ⟨by rfl, ?_⟩) (by assumption) ?_
    rotate_left
    · intro w9 hSw; (try dsimp only at hSw); go_simp; try with_reducible rfl
    try simp only [List.getElem_toArray, List.getElem_cons_succ, List.getElem_cons_zero, Act.put, List.setIfInBounds_toArray, List.set_cons_zero, List.set_cons_succ]
    refine wpAnyH_take (i := 9) (v := undef) rfl (by kernel_rfl) (by kernel_rfl) (by kernel_rfl) (fun _ _ _ h => h) (Or.inr ⟨by rfl, rfl⟩) (by assumption) ?_
    try simp only [List.getElem_toArray, List.getElem_cons_succ, List.getElem_cons_zero, Act.put, List.setIfInBounds_toArray, List.set_cons_zero, List.set_cons_succ]
    refine wpAnyH_take (i := 10) (v := undef) rfl (by kernel_rfl) (by kernel_rfl) (by kernel_rfl) (fun _ _ _ h => h) (Or.inr ⟨by rfl, rfl⟩) (by assumption) ?_
    try simp only [List.getElem_toArray, List.getElem_cons_succ, List.getElem_cons_zero, Act.put, List.setIfInBounds_toArray, List.set_cons_zero, List.set_cons_succ]
    refine wpAnyH_take (i := 11) (v := undef) rfl (by kernel_rfl) (by kernel_rfl) (by kernel_rfl) (fun _ _ _ h => h) (Or.inr ⟨by rfl, rfl⟩) (by assumption) ?_
    try simp only [List.getElem_toArray, List.getElem_cons_succ, List.getElem_cons_zero, Act.put, List.setIfInBounds_toArray, List.set_cons_zero, List.set_cons_succ]
    refine wpAnyH_take (i := 12) (v := undef) rfl (by kernel_rfl) (by kernel_rfl) (by kernel_rfl) (fun _ _ _ h => h) (Or.inr ⟨by rfl, rfl⟩) (by assumption) ?_
    try simp only [List.getElem_toArray, List.getElem_cons_succ, List.getElem_cons_zero, Act.put, List.setIfInBounds_toArray, List.set_cons_zero, List.set_cons_succ]
    refine wpAnyH_take (i := 13) (v := undef) rfl (by kernel_rfl) (by kernel_rfl) (by kernel_rfl) (fun _ _ _ h => h) (Or.inr ⟨by rfl, rfl⟩) (by assumption) ?_
    try simp only [List.getElem_toArray, List.getElem_cons_succ, List.getElem_cons_zero, Act.put, List.setIfInBounds_toArray, List.set_cons_zero, List.set_cons_succ]
    refine wpAnyH_take (i := 14) (v := undef) rfl (by kernel_rfl) (by kernel_rfl) (by kernel_rfl) (fun _ _ _ h => h) (Or.inr ⟨by rfl, rfl⟩) (by assumption) ?_
    try simp only [List.getElem_toArray, List.getElem_cons_succ, List.getElem_cons_zero, Act.put, List.setIfInBounds_toArray, List.set_cons_zero, List.set_cons_succ]
    refine wpAnyH_take (i := 15) (v := undef) rfl (by kernel_rfl) (by kernel_rfl) (by kernel_rfl) (fun _ _ _ h => h) (Or.inr ⟨by rfl, rfl⟩) (by assumption) ?_
    try simp only [List.getElem_toArray, List.getElem_cons_succ, List.getElem_cons_zero, Act.put, List.setIfInBounds_toArray, List.set_cons_zero, List.set_cons_succ]
    refine wpAnyH_take (i := 16) (v := undef) rfl (by kernel_rfl) (by kernel_rfl) (by kernel_rfl) (fun _ _ _ h => h) (Or.inr ⟨by rfl, rfl⟩) (by assumption) ?_
    try simp only [List.getElem_toArray, List.getElem_cons_succ, List.getElem_cons_zero, Act.put, List.setIfInBounds_toArray, List.set_cons_zero, List.set_cons_succ]
    refine wpAnyH_take (i := 17) (v := undef) rfl (by kernel_rfl) (by kernel_rfl) (by kernel_rfl) (fun _ _ _ h => h) (Or.inr ⟨by rfl, rfl⟩) (by assumption) ?_
    try simp only [List.getElem_toArray, List.getElem_cons_succ, List.getElem_cons_zero, Act.put, List.setIfInBounds_toArray, List.set_cons_zero, List.set_cons_succ]
    refine wpAnyH_take (i := 18) (v := undef) rfl (by kernel_rfl) (by kernel_rfl) (by kernel_rfl) (fun _ _ _ h => h) (Or.inr ⟨by rfl, rfl⟩) (by assumption) ?_
    try simp only [List.getElem_toArray, List.getElem_cons_succ, List.getElem_cons_zero, Act.put, List.setIfInBounds_toArray, List.set_cons_zero, List.set_cons_succ]
    refine wpAnyH_take (i := 19) (v := undef) rfl (by kernel_rfl) (by kernel_rfl) (by kernel_rfl) (fun _ _ _ h => h) (Or.inr ⟨by rfl, rfl⟩) (by assumption) ?_
    try simp only [List.getElem_toArray, List.getElem_cons_succ, List.getElem_cons_zero, Act.put, List.setIfInBounds_toArray, List.set_cons_zero, List.set_cons_succ]
    refine wpAnyH_take (i := 20) (v := undef) rfl (by kernel_rfl) (by kernel_rfl) (by kernel_rfl) (fun _ _ _ h => h) (Or.inr ⟨by rfl, rfl⟩) (by assumption) ?_
    try simp only [List.getElem_toArray, List.getElem_cons_succ, List.getElem_cons_zero, Act.put, List.setIfInBounds_toArray, List.set_cons_zero, List.set_cons_succ]
    refine wpAnyH_take (i := 21) (v := ?_) rfl (by kernel_rfl) (by kernel_rfl) (by kernel_rfl) (fun _ _ _ h => h) (Or.inl ⟨by rfl, ?_⟩) (by assumption) ?_
    rotate_left
    · intro w9 hSw; (try dsimp only at hSw); go_simp; try with_reducible rfl
    try simp only [List.getElem_toArray, List.getElem_cons_succ, List.getElem_cons_zero, Act.put, List.setIfInBounds_toArray, List.set_cons_zero, List.set_cons_succ]
    refine wpAnyH_take (i := 22) (v := ?_) rfl (by kernel_rfl) (by kernel_rfl) (by kernel_rfl) (fun _ _ _ h => h) (Or.inl ⟨by rfl, ?_⟩) (by assumption) ?_
    rotate_left
    · intro w9 hSw; (try dsimp only at hSw); go_simp; try with_reducible rfl
    try simp only [List.getElem_toArray, List.getElem_cons_succ, List.getElem_cons_zero, Act.put, List.setIfInBounds_toArray, List.set_cons_zero, List.set_cons_succ]
    refine wpAnyH_take (i := 23) (v := undef) rfl (by kernel_rfl) (by kernel_rfl) (by kernel_rfl) (fun _ _ _ h => h) (Or.inr ⟨by rfl, rfl⟩) (by assumption) ?_
    try simp only [List.getElem_toArray, List.getElem_cons_succ, List.getElem_cons_zero, Act.put, List.setIfInBounds_toArray, List.set_cons_zero, List.set_cons_succ]
    refine wpAnyH_take (i := 24) (v := undef) rfl (by kernel_rfl) (by kernel_rfl) (by kernel_rfl) (fun _ _ _ h => h) (Or.inr ⟨by rfl, rfl⟩) (by assumption) ?_
    try simp only [List.getElem_toArray, List.getElem_cons_succ, List.getElem_cons_zero, Act.put, List.setIfInBounds_toArray, List.set_cons_zero, List.set_cons_succ]
    refine wpAnyH_take (i := 25) (v := undef) rfl (by kernel_rfl) (by kernel_rfl) (by kernel_rfl) (fun _ _ _ h => h) (Or.inr ⟨by rfl, rfl⟩) (by assumption) ?_
    try simp only [List.getElem_toArray, List.getElem_cons_succ, List.getElem_cons_zero, Act.put, List.setIfInBounds_toArray, List.set_cons_zero, List.set_cons_succ]
    refine wpAnyH_take (i := 26) (v := undef) rfl (by kernel_rfl) (by kernel_rfl) (by kernel_rfl) (fun _ _ _ h => h) (Or.inr ⟨by rfl, rfl⟩) (by assumption) ?_
    try simp only [List.getElem_toArray, List.getElem_cons_succ, List.getElem_cons_zero, Act.put, List.setIfInBounds_toArray, List.set_cons_zero, List.set_cons_succ]
    refine wpAnyH_take (i := 27) (v := undef) rfl (by kernel_rfl) (by kernel_rfl) (by kernel_rfl) (fun _ _ _ h => h) (Or.inr ⟨by rfl, rfl⟩) (by assumption) ?_
    try simp only [List.getElem_toArray, List.getElem_cons_succ, List.getElem_cons_zero, Act.put, List.setIfInBounds_toArray, List.set_cons_zero, List.set_cons_succ]
    refine wpAnyH_take (i := 28) (v := undef) rfl (by kernel_rfl) (by kernel_rfl) (by kernel_rfl) (fun _ _ _ h => h) (Or.inr ⟨by rfl, rfl⟩) (by assumption) ?_
    try simp only [List.getElem_toArray, List.getElem_cons_succ, List.getElem_cons_zero, Act.put, List.setIfInBounds_toArray, List.set_cons_zero, List.set_cons_succ]
    refine wpAnyH_take (i := 29) (v := undef) rfl (by kernel_rfl) (by kernel_rfl) (by kernel_rfl) (fun _ _ _ h => h) (Or.inr ⟨by rfl, rfl⟩) (by assumption) ?_
    try simp only [List.getElem_toArray, List.getElem_cons_succ, List.getElem_cons_zero, Act.put, List.setIfInBounds_toArray, List.set_cons_zero, List.set_cons_succ]
    refine wpAnyH_take (i := 30) (v := undef) rfl (by kernel_rfl) (by kernel_rfl) (by kernel_rfl) (fun _ _ _ h => h) (Or.inr ⟨by rfl, rfl⟩) (by assumption) ?_
    try simp only [List.getElem_toArray, List.getElem_cons_succ, List.getElem_cons_zero, Act.put, List.setIfInBounds_toArray, List.set_cons_zero, List.set_cons_succ]
    refine wpAnyH_take (i := 31) (v := ?_) rfl (by kernel_rfl) (by kernel_rfl) (by kernel_rfl) (fun _ _ _ h => h) (Or.inl ⟨by rfl, ?_⟩) (by assumption) ?_
    rotate_left
    · intro w9 hSw; (try dsimp only at hSw); go_simp; try with_reducible rfl
    try simp only [List.getElem_toArray, List.getElem_cons_succ, List.getElem_cons_zero, Act.put, List.setIfInBounds_toArray, List.set_cons_zero, List.set_cons_succ]
    refine wpAnyH_done (by kernel_rfl) ?_ _
    refine NoPanic.normal ?_
    replace x2_0 := cell_below HCv2.out x2_0 (by omega)
    replace x2_1 := cell_below HCv2.out x2_1 (by omega)
    replace f2_0 := fro_below HCv2.out f2_0 (by omega)
    replace f2_1 := fro_below HCv2.out f2_1 (by omega)
    have HBn := Lib.hid (HB0.out.trans (HCv2.out.mono (by omega)))
    go_wp2_with fail
    refine bodyPost_ret (v := .tuple #[.agg #[.int .i64 0, .slice none 0 0], .bool false]) (by simp [results, Try.results49, go_sem, x2_0, x2_1, f2_0, f2_1]) rfl ⟨_, rfl, ?_, ?_⟩
    · exact OwnL.nil _ _ _
    · exact ((HBn.out.setCell (by simp; omega) _).setCell (by simp; omega) _)
  have HN1 := Lib.hid h1
  by_cases hlast : n' = ((ls.getD (ls.length - 1) []).length : Int)
  · have hgt : ¬ ls.length + ms.length ≤ 6 := fun e => by
      have := (anB_iff n ls n' ms).2 ⟨h0, h1, hlast, e⟩
      rw [h] at this; cases this
    have h6 := net_len h0
    have h6' := net_len h1
    obtain ⟨L, hL⟩ : ∃ L : Nat, ls.length = L + 1 := ⟨ls.length - 1, by omega⟩
    have HLL := Lib.hid hL
    rw [show ls.length - 1 = L by omega] at hlast
    obtain ⟨bl, off, pl, cl, hab, hbl, hcl, _, hlay⟩ := Hhr.out.at (k := L) (by omega)
    have eL : IntKind.i64.wrap ((ls.length : Int) - 1) = (L : Int) := by rw [IntWalk.i64_in _ (by omega)]; omega
    have eS : IntKind.i64.wrap ((ls.length : Int) + (ms.length : Int)) = (ls.length : Int) + (ms.length : Int) := IntWalk.i64_in _ (by omega)
    have iL0 : (0 : Int) ≤ (L : Int) := by omega
    have iL1 : (L : Int) < (ls.length : Int) := by omega
    obtain ⟨l, hl⟩ : ∃ l, l = ls.getD L [] := ⟨_, rfl⟩
    rw [← hl] at hcl hlast hlay
    have hl4 : l.length ≤ 4 := by have := net_lay h0 L (by omega); rw [← hl] at this; exact this.2
    clear hL hl h6 h6'
    subst hab
    have g3 : (n' != (l.length : Int)) = false := by rw [hlast]; simp
    have g4 : decide ((6 : Int) < (ls.length : Int) + (ms.length : Int)) = true := decide_eq_true (by omega)
    clear h h0 h1 hlast hgt hlay
    go_enter Try.func49, Try.ntmps49
    obtain ⟨wb1, hw1⟩ : ∃ wb1 : World, wb1 = w.alloc (.cells #[.int .i64 n, .slice (some ⟨bl, off, none⟩) ls.length c] 65) := ⟨_, rfl⟩
    obtain ⟨wb2, hw2⟩ : ∃ wb2 : World, wb2 = wb1.alloc (.cells #[.int .i64 n', .slice a' ms.length c'] 65) := ⟨_, rfl⟩
    obtain ⟨wb3, hw3⟩ : ∃ wb3 : World, wb3 = wb2.alloc (.cells #[.int .i64 0, .slice none 0 0] 65) := ⟨_, rfl⟩
    have z1 : wb1.heap.size = w.heap.size + 1 := by rw [hw1]; simp
    have z2 : wb2.heap.size = w.heap.size + 2 := by rw [hw2]; simp; omega
    have z3 : wb3.heap.size = w.heap.size + 3 := by rw [hw3]; simp; omega
    have x0_0 := (by rw [hw3]; exact cell_old _ (by rw [hw2]; exact cell_old _ (by rw [hw1]; exact cell_new _ _ _ rfl rfl : wb1.cell? ⟨w.heap.size, 0, none⟩ = some (.int .i64 n)) : wb2.cell? ⟨w.heap.size, 0, none⟩ = some (.int .i64 n)) : wb3.cell? ⟨w.heap.size, 0, none⟩ = some (.int .i64 n))
    have x0_1 := (by rw [hw3]; exact cell_old _ (by rw [hw2]; exact cell_old _ (by rw [hw1]; exact cell_new _ _ _ rfl rfl : wb1.cell? ⟨w.heap.size, 1, none⟩ = some (.slice (some ⟨bl, off, none⟩) ls.length c)) : wb2.cell? ⟨w.heap.size, 1, none⟩ = some (.slice (some ⟨bl, off, none⟩) ls.length c)) : wb3.cell? ⟨w.heap.size, 1, none⟩ = some (.slice (some ⟨bl, off, none⟩) ls.length c))
    have x1_0 := (by rw [hw3]; exact cell_old _ (by rw [hw2]; exact cell_new _ _ _ z1.symm rfl : wb2.cell? ⟨w.heap.size + 1, 0, none⟩ = some (.int .i64 n')) : wb3.cell? ⟨w.heap.size + 1, 0, none⟩ = some (.int .i64 n'))
    have x1_1 := (by rw [hw3]; exact cell_old _ (by rw [hw2]; exact cell_new _ _ _ z1.symm rfl : wb2.cell? ⟨w.heap.size + 1, 1, none⟩ = some (.slice a' ms.length c')) : wb3.cell? ⟨w.heap.size + 1, 1, none⟩ = some (.slice a' ms.length c'))
    have x2_0 := (by rw [hw3]; exact cell_new _ _ _ z2.symm rfl : wb3.cell? ⟨w.heap.size + 2, 0, none⟩ = some (.int .i64 0))
    have x2_1 := (by rw [hw3]; exact cell_new _ _ _ z2.symm rfl : wb3.cell? ⟨w.heap.size + 2, 1, none⟩ = some (.slice none 0 0))
    have HB0 := Lib.hid (show Below w.heap.size w wb3 by rw [hw3]; exact (show Below w.heap.size w wb2 by rw [hw2]; exact (show Below w.heap.size w wb1 by rw [hw1]; exact (Below.refl w.heap.size w).alloc (Nat.le_refl _) _).alloc (by omega) _).alloc (by omega) _)
    have s3 : w.heap.size + 3 ≤ wb3.heap.size := by omega
    have f2_0 := (by rw [hw3]; exact fro_new _ _ _ z2.symm : wb3.frozen? ⟨w.heap.size + 2, 0, none⟩ = false)
    have f2_1 := (by rw [hw3]; exact fro_new _ _ _ z2.symm : wb3.frozen? ⟨w.heap.size + 2, 1, none⟩ = false)
    have HZ3 := Lib.hid z3
    clear z1 z2 z3
    go_wp2_with fail
    rw [← hw1, ← hw2, ← hw3]
    clear hw1 hw2 hw3
    replace hcl := cell_below HB0.out hcl hbl
    have HG := Lib.hid (show ∀ wa : World, Below wb3.heap.size wb3 wa → Calls Try.prog 105 #[.agg #[.int .i64 n, .slice (some ⟨bl, off, none⟩) ls.length c]] wa (RetB true wa) from fun wa hb => spec_good _ ls c n wa ((Hhr.out.below HB0.out).below hb) hn Hhm.out true HN0)
    have HH := Lib.hid (show ∀ wa : World, Below wb3.heap.size wb3 wa → Calls Try.prog 105 #[.agg #[.int .i64 n', .slice a' ms.length c']] wa (RetB true wa) from fun wa hb => spec_good a' ms c' n' wa ((Hhq.out.below HB0.out).below hb) hk Hhp.out true HN1)
    have hbl3 : bl < wb3.heap.size := by omega
    refine wp_region_noPanic ?_
    refine wp_region_held_drew (S := fun w' => w'.cell? ⟨w.heap.size, 0, none⟩ = some (.int .i64 n) ∧ w'.cell? ⟨w.heap.size, 1, none⟩ = some (.slice (some ⟨bl, off, none⟩) ls.length c) ∧ w'.cell? ⟨w.heap.size + 1, 0, none⟩ = some (.int .i64 n') ∧ w'.cell? ⟨w.heap.size + 1, 1, none⟩ = some (.slice a' ms.length c') ∧ w'.cell? ⟨bl, off + L, none⟩ = some (.slice pl l.length cl)) (by kernel_rfl) ?_ (fun hHeld => ?_)
    · exact ⟨x0_0, x0_1, x1_0, x1_1, hcl⟩
    refine wpAnyH_take (i := 0) (v := ?_) rfl (by kernel_rfl) (by kernel_rfl) (by kernel_rfl) (fun _ _ _ h => h) (Or.inl ⟨by rfl, ?_⟩) (by assumption) ?_
    rotate_left
    · intro w9 hSw; (try dsimp only at hSw); go_simp; try with_reducible rfl
    try simp only [List.getElem_toArray, List.getElem_cons_succ, List.getElem_cons_zero, Act.put, List.setIfInBounds_toArray, List.set_cons_zero, List.set_cons_succ]
    refine wpAnyH_ready (rs := [1]) (by kernel_rfl) (by simp) ?_
    refine AllReadyH.cons rfl (fun K hK => ?_) AllReadyH.nil
    clear hHeld
    go_simp
    refine (HG.out _ (Below.refl _ _).drew).mono ?_
    rintro e' v1 ⟨rfl, hb⟩
    have HCv1 := Lib.hid ((Below.refl wb3.heap.size wb3).drew.trans hb)
    have sv1 := HCv1.out.size
    clear hb
    have mv1_0 := cell_below HCv1.out x0_0 (by omega)
    have mv1_1 := cell_below HCv1.out x0_1 (by omega)
    have mv1_2 := cell_below HCv1.out x1_0 (by omega)
    have mv1_3 := cell_below HCv1.out x1_1 (by omega)
    have mv1_4 := cell_below HCv1.out hcl (by omega)
    refine hK.out _ _ ?_ (fun hHeld => ?_)
    · exact ⟨mv1_0, mv1_1, mv1_2, mv1_3, mv1_4⟩
    clear hK K
    try simp only [List.getElem_toArray, List.getElem_cons_succ, List.getElem_cons_zero, Act.put, List.setIfInBounds_toArray, List.set_cons_zero, List.set_cons_succ]
    refine wpAnyH_take (i := 2) (v := ?_) rfl (by kernel_rfl) (by kernel_rfl) (by kernel_rfl) (fun _ _ _ h => h) (Or.inl ⟨by rfl, ?_⟩) (by assumption) ?_
    rotate_left
    · intro w9 hSw; (try dsimp only at hSw); go_simp; try with_reducible rfl
    try simp only [List.getElem_toArray, List.getElem_cons_succ, List.getElem_cons_zero, Act.put, List.setIfInBounds_toArray, List.set_cons_zero, List.set_cons_succ]
    refine wpAnyH_take (i := 3) (v := ?_) rfl (by kernel_rfl) (by kernel_rfl) (by kernel_rfl) (fun _ _ _ h => h) (Or.inl ⟨by rfl, ?_⟩) (by assumption) ?_
    rotate_left
    · intro w9 hSw; (try dsimp only at hSw); go_simp; try with_reducible rfl
    try simp only [List.getElem_toArray, List.getElem_cons_succ, List.getElem_cons_zero, Act.put, List.setIfInBounds_toArray, List.set_cons_zero, List.set_cons_succ]
    refine wpAnyH_take (i := 4) (v := ?_) rfl (by kernel_rfl) (by kernel_rfl) (by kernel_rfl) (fun _ _ _ h => h) (Or.inl ⟨by rfl, ?_⟩) (by assumption) ?_
    rotate_left
    · intro w9 hSw; (try dsimp only at hSw); go_simp; try with_reducible rfl
    try simp only [List.getElem_toArray, List.getElem_cons_succ, List.getElem_cons_zero, Act.put, List.setIfInBounds_toArray, List.set_cons_zero, List.set_cons_succ]
    refine wpAnyH_ready (rs := [5]) (by kernel_rfl) (by simp) ?_
    refine AllReadyH.cons rfl (fun K hK => ?_) AllReadyH.nil
    clear hHeld
    go_simp
    refine (HH.out _ HCv1.out).mono ?_
    rintro e' v2 ⟨rfl, hb⟩
    have HCv2 := Lib.hid (HCv1.out.trans (hb.mono HCv1.out.size))
    have sv2 := HCv2.out.size
    clear hb
    have mv2_0 := cell_below HCv2.out x0_0 (by omega)
    have mv2_1 := cell_below HCv2.out x0_1 (by omega)
    have mv2_2 := cell_below HCv2.out x1_0 (by omega)
    have mv2_3 := cell_below HCv2.out x1_1 (by omega)
    have mv2_4 := cell_below HCv2.out hcl (by omega)
    refine hK.out _ _ ?_ (fun hHeld => ?_)
    · exact ⟨mv2_0, mv2_1, mv2_2, mv2_3, mv2_4⟩
    clear hK K
    try simp only [List.getElem_toArray, List.getElem_cons_succ, List.getElem_cons_zero, Act.put, List.setIfInBounds_toArray, List.set_cons_zero, List.set_cons_succ]
    refine wpAnyH_take (i := 6) (v := ?_) rfl (by kernel_rfl) (by kernel_rfl) (by kernel_rfl) (fun _ _ _ h => h) (Or.inl ⟨by rfl, ?_⟩) (by assumption) ?_
    rotate_left
    · intro w9 hSw; (try dsimp only at hSw); go_simp; try with_reducible rfl
    try simp only [List.getElem_toArray, List.getElem_cons_succ, List.getElem_cons_zero, Act.put, List.setIfInBounds_toArray, List.set_cons_zero, List.set_cons_succ]
    refine wpAnyH_take (i := 7) (v := ?_) rfl (by kernel_rfl) (by kernel_rfl) (by kernel_rfl) (fun _ _ _ h => h) (Or.inl ⟨by rfl, ?_⟩) (by assumption) ?_
    rotate_left
    · intro w9 hSw; (try dsimp only at hSw); go_simp; try with_reducible rfl
    try simp only [List.getElem_toArray, List.getElem_cons_succ, List.getElem_cons_zero, Act.put, List.setIfInBounds_toArray, List.set_cons_zero, List.set_cons_succ]
    refine wpAnyH_take (i := 8) (v := ?_) rfl (by kernel_rfl) (by kernel_rfl) (by kernel_rfl) (fun _ _ _ h => h) (Or.inl ⟨by rfl, ?_⟩) (by assumption) ?_
    rotate_left
    · intro w9 hSw; (try dsimp only at hSw); go_simp; try with_reducible rfl
    try simp only [List.getElem_toArray, List.getElem_cons_succ, List.getElem_cons_zero, Act.put, List.setIfInBounds_toArray, List.set_cons_zero, List.set_cons_succ]
    refine wpAnyH_take (i := 9) (v := ?_) rfl (by kernel_rfl) (by kernel_rfl) (by kernel_rfl) (fun _ _ _ h => h) (Or.inl ⟨by rfl, ?_⟩) (by assumption) ?_
    rotate_left
    · intro w9 hSw; (try dsimp only at hSw); go_simp; try with_reducible rfl
    try simp only [List.getElem_toArray, List.getElem_cons_succ, List.getElem_cons_zero, Act.put, List.setIfInBounds_toArray, List.set_cons_zero, List.set_cons_succ]
    refine wpAnyH_take (i := 10) (v := ?_) rfl (by kernel_rfl) (by kernel_rfl) (by kernel_rfl) (fun _ _ _ h => h) (Or.inl ⟨by rfl, ?_⟩) (by assumption) ?_
    rotate_left
    · intro w9 hSw; (try dsimp only at hSw); go_simp; try with_reducible rfl
    try simp only [List.getElem_toArray, List.getElem_cons_succ, List.getElem_cons_zero, Act.put, List.setIfInBounds_toArray, List.set_cons_zero, List.set_cons_succ]
    refine wpAnyH_take (i := 11) (v := ?_) rfl (by kernel_rfl) (by kernel_rfl) (by kernel_rfl) (fun _ _ _ h => h) (Or.inl ⟨by rfl, ?_⟩) (by assumption) ?_
    rotate_left
    · intro w9 hSw; (try dsimp only at hSw); go_simp; try with_reducible rfl
    try simp only [List.getElem_toArray, List.getElem_cons_succ, List.getElem_cons_zero, Act.put, List.setIfInBounds_toArray, List.set_cons_zero, List.set_cons_succ]
    refine wpAnyH_take (i := 12) (v := ?_) rfl (by kernel_rfl) (by kernel_rfl) (by kernel_rfl) (fun _ _ _ h => h) (Or.inl ⟨by rfl, ?_⟩) (by assumption) ?_
    rotate_left
    · intro w9 hSw; (try dsimp only at hSw); go_simp; try with_reducible rfl
    try simp only [List.getElem_toArray, List.getElem_cons_succ, List.getElem_cons_zero, Act.put, List.setIfInBounds_toArray, List.set_cons_zero, List.set_cons_succ]
    refine wpAnyH_take (i := 13) (v := ?_) rfl (by kernel_rfl) (by kernel_rfl) (by kernel_rfl) (fun _ _ _ h => h) (Or.inl ⟨by rfl, ?_⟩) (by assumption) ?_
    rotate_left
    · intro w9 hSw; (try dsimp only at hSw); go_simp; try with_reducible rfl
    try simp only [List.getElem_toArray, List.getElem_cons_succ, List.getElem_cons_zero, Act.put, List.setIfInBounds_toArray, List.set_cons_zero, List.set_cons_succ]
    refine wpAnyH_take (i := 14) (v := ?_) rfl (by kernel_rfl) (by kernel_rfl) (by kernel_rfl) (fun _ _ _ h => h) (Or.inl ⟨by rfl, ?_⟩) (by assumption) ?_
    rotate_left
    · intro w9 hSw; (try dsimp only at hSw); go_simp; try with_reducible rfl
    try simp only [List.getElem_toArray, List.getElem_cons_succ, List.getElem_cons_zero, Act.put, List.setIfInBounds_toArray, List.set_cons_zero, List.set_cons_succ]
    refine wpAnyH_take (i := 15) (v := ?_) rfl (by kernel_rfl) (by kernel_rfl) (by kernel_rfl) (fun _ _ _ h => h) (Or.inl ⟨by rfl, ?_⟩) (by assumption) ?_
    rotate_left
    · intro w9 hSw; (try dsimp only at hSw); go_simp; try with_reducible rfl
    try simp only [List.getElem_toArray, List.getElem_cons_succ, List.getElem_cons_zero, Act.put, List.setIfInBounds_toArray, List.set_cons_zero, List.set_cons_succ]
    refine wpAnyH_take (i := 16) (v := ?_) rfl (by kernel_rfl) (by kernel_rfl) (by kernel_rfl) (fun _ _ _ h => h) (Or.inl ⟨by rfl, ?_⟩) (by assumption) ?_
    rotate_left
    · intro w9 hSw; (try dsimp only at hSw); go_simp; try with_reducible rfl
    try simp only [List.getElem_toArray, List.getElem_cons_succ, List.getElem_cons_zero, Act.put, List.setIfInBounds_toArray, List.set_cons_zero, List.set_cons_succ]
    refine wpAnyH_take (i := 17) (v := ?_) rfl (by kernel_rfl) (by kernel_rfl) (by kernel_rfl) (fun _ _ _ h => h) (Or.inl ⟨by rfl, ?_⟩) (by assumption) ?_
    rotate_left
    · intro w9 hSw; (try dsimp only at hSw); go_simp; try with_reducible rfl
    try simp only [List.getElem_toArray, List.getElem_cons_succ, List.getElem_cons_zero, Act.put, List.setIfInBounds_toArray, List.set_cons_zero, List.set_cons_succ]
    refine wpAnyH_take (i := 18) (v := ?_) rfl (by kernel_rfl) (by kernel_rfl) (by kernel_rfl) (fun _ _ _ h => h) (Or.inl ⟨by rfl, ?_⟩) (by assumption) ?_
    rotate_left
    · intro w9 hSw; (try dsimp only at hSw); go_simp; try with_reducible rfl
    try simp only [List.getElem_toArray, List.getElem_cons_succ, List.getElem_cons_zero, Act.put, List.setIfInBounds_toArray, List.set_cons_zero, List.set_cons_succ]
    refine wpAnyH_take (i := 19) (v := ?_) rfl (by kernel_rfl) (by kernel_rfl) (by kernel_rfl) (fun _ _ _ h => h) (Or.inl ⟨by rfl, ?_⟩) (by assumption) ?_
    rotate_left
    · intro w9 hSw; (try dsimp only at hSw); go_simp; try with_reducible rfl
    try simp only [List.getElem_toArray, List.getElem_cons_succ, List.getElem_cons_zero, Act.put, List.setIfInBounds_toArray, List.set_cons_zero, List.set_cons_succ]
    refine wpAnyH_take (i := 20) (v := ?_) rfl (by kernel_rfl) (by kernel_rfl) (by kernel_rfl) (fun _ _ _ h => h) (Or.inl ⟨by rfl, ?_⟩) (by assumption) ?_
    rotate_left
    · intro w9 hSw; (try dsimp only at hSw); go_simp; try with_reducible rfl
    try simp only [List.getElem_toArray, List.getElem_cons_succ, List.getElem_cons_zero, Act.put, List.setIfInBounds_toArray, List.set_cons_zero, List.set_cons_succ]
    refine wpAnyH_take (i := 21) (v := ?_) rfl (by kernel_rfl) (by kernel_rfl) (by kernel_rfl) (fun _ _ _ h => h) (Or.inl ⟨by rfl, ?_⟩) (by assumption) ?_
    rotate_left
    · intro w9 hSw; (try dsimp only at hSw); go_simp; try with_reducible rfl
    try simp only [List.getElem_toArray, List.getElem_cons_succ, List.getElem_cons_zero, Act.put, List.setIfInBounds_toArray, List.set_cons_zero, List.set_cons_succ]
    refine wpAnyH_take (i := 22) (v := ?_) rfl (by kernel_rfl) (by kernel_rfl) (by kernel_rfl) (fun _ _ _ h => h) (Or.inl ⟨by rfl, ?_⟩) (by assumption) ?_
    rotate_left
    · intro w9 hSw; (try dsimp only at hSw); go_simp; try with_reducible rfl
    try simp only [List.getElem_toArray, List.getElem_cons_succ, List.getElem_cons_zero, Act.put, List.setIfInBounds_toArray, List.set_cons_zero, List.set_cons_succ]
    refine wpAnyH_take (i := 23) (v := ?_) rfl (by kernel_rfl) (by kernel_rfl) (by kernel_rfl) (fun _ _ _ h => h) (Or.inl ⟨by rfl, ?_⟩) (by assumption) ?_
    rotate_left
    · intro w9 hSw; (try dsimp only at hSw); go_simp; try with_reducible rfl
    try simp only [List.getElem_toArray, List.getElem_cons_succ, List.getElem_cons_zero, Act.put, List.setIfInBounds_toArray, List.set_cons_zero, List.set_cons_succ]
    refine wpAnyH_take (i := 24) (v := ?_) rfl (by kernel_rfl) (by kernel_rfl) (by kernel_rfl) (fun _ _ _ h => h) (Or.inl ⟨by rfl, ?_⟩) (by assumption) ?_
    rotate_left
    · intro w9 hSw; (try dsimp only at hSw); go_simp; try with_reducible rfl
    try simp only [List.getElem_toArray, List.getElem_cons_succ, List.getElem_cons_zero, Act.put, List.setIfInBounds_toArray, List.set_cons_zero, List.set_cons_succ]
    refine wpAnyH_take (i := 25) (v := ?_) rfl (by kernel_rfl) (by kernel_rfl) (by kernel_rfl) (fun _ _ _ h => h) (Or.inl ⟨by rfl, ?_⟩) (by assumption) ?_
    rotate_left
    · intro w9 hSw; (try dsimp only at hSw); go_simp; try with_reducible rfl
    try simp only [List.getElem_toArray, List.getElem_cons_succ, List.getElem_cons_zero, Act.put, List.setIfInBounds_toArray, List.set_cons_zero, List.set_cons_succ]
    refine wpAnyH_take (i := 26) (v := ?_) rfl (by kernel_rfl) (by kernel_rfl) (by kernel_rfl) (fun _ _ _ h => h) (Or.inl ⟨by rfl, ?_⟩) (by assumption) ?_
    rotate_left
    · intro w9 hSw; (try dsimp only at hSw); go_simp; try with_reducible rfl
    try simp only [List.getElem_toArray, List.getElem_cons_succ, List.getElem_cons_zero, Act.put, List.setIfInBounds_toArray, List.set_cons_zero, List.set_cons_succ]
    refine wpAnyH_take (i := 27) (v := ?_) rfl (by kernel_rfl) (by kernel_rfl) (by kernel_rfl) (fun _ _ _ h => h) (Or.inl ⟨by rfl, ?_⟩) (by assumption) ?_
    rotate_left
    · intro w9 hSw; (try dsimp only at hSw); go_simp; try with_reducible rfl
    try simp only [List.getElem_toArray, List.getElem_cons_succ, List.getElem_cons_zero, Act.put, List.setIfInBounds_toArray, List.set_cons_zero, List.set_cons_succ]
    refine wpAnyH_take (i := 28) (v := ?_) rfl (by kernel_rfl) (by kernel_rfl) (by kernel_rfl) (fun _ _ _ h => h) (Or.inl ⟨by rfl, ?_⟩) (by assumption) ?_
    rotate_left
    · intro w9 hSw; (try dsimp only at hSw); go_simp; try with_reducible rfl
    try simp only [List.getElem_toArray, List.getElem_cons_succ, List.getElem_cons_zero, Act.put, List.setIfInBounds_toArray, List.set_cons_zero, List.set_cons_succ]
    refine wpAnyH_take (i := 29) (v := ?_) rfl (by kernel_rfl) (by kernel_rfl) (by kernel_rfl) (fun _ _ _ h => h) (Or.inl ⟨by rfl, ?_⟩) (by assumption) ?_
    rotate_left
    · intro w9 hSw; (try dsimp only at hSw); go_simp; try with_reducible rfl
    try simp only [List.getElem_toArray, List.getElem_cons_succ, List.getElem_cons_zero, Act.put, List.setIfInBounds_toArray, List.set_cons_zero, List.set_cons_succ]
    refine wpAnyH_take (i := 30) (v := ?_) rfl (by kernel_rfl) (by kernel_rfl) (by kernel_rfl) (fun _ _ _ h => h) (Or.inl ⟨by rfl, ?_⟩) (by assumption) ?_
    rotate_left
    · intro w9 hSw; (try dsimp only at hSw); go_simp; try with_reducible rfl
    try simp only [List.getElem_toArray, List.getElem_cons_succ, List.getElem_cons_zero, Act.put, List.setIfInBounds_toArray, List.set_cons_zero, List.set_cons_succ]
    refine wpAnyH_take (i := 31) (v := ?_) rfl (by kernel_rfl) (by kernel_rfl) (by kernel_rfl) (fun _ _ _ h => h) (Or.inl ⟨by rfl, ?_⟩) (by assumption) ?_
    rotate_left
    · intro w9 hSw; (try dsimp only at hSw); go_simp; try with_reducible rfl
    try simp only [List.getElem_toArray, List.getElem_cons_succ, List.getElem_cons_zero, Act.put, List.setIfInBounds_toArray, List.set_cons_zero, List.set_cons_succ]
    refine wpAnyH_done (by kernel_rfl) ?_ _
    refine NoPanic.normal ?_
    replace x2_0 := cell_below HCv2.out x2_0 (by omega)
    replace x2_1 := cell_below HCv2.out x2_1 (by omega)
    replace f2_0 := fro_below HCv2.out f2_0 (by omega)
    replace f2_1 := fro_below HCv2.out f2_1 (by omega)
    have HBn := Lib.hid (HB0.out.trans (HCv2.out.mono (by omega)))
    go_wp2_with fail
    refine bodyPost_ret (v := .tuple #[.agg #[.int .i64 0, .slice none 0 0], .bool false]) (by simp [results, Try.results49, go_sem, x2_0, x2_1, f2_0, f2_1]) rfl ⟨_, rfl, ?_, ?_⟩
    · exact OwnL.nil _ _ _
    · exact ((HBn.out.setCell (by simp; omega) _).setCell (by simp; omega) _)
  · skip
    have h6 := net_len h0
    have h6' := net_len h1
    obtain ⟨L, hL⟩ : ∃ L : Nat, ls.length = L + 1 := ⟨ls.length - 1, by omega⟩
    have HLL := Lib.hid hL
    rw [show ls.length - 1 = L by omega] at hlast
    obtain ⟨bl, off, pl, cl, hab, hbl, hcl, _, hlay⟩ := Hhr.out.at (k := L) (by omega)
    have eL : IntKind.i64.wrap ((ls.length : Int) - 1) = (L : Int) := by rw [IntWalk.i64_in _ (by omega)]; omega
    have eS : IntKind.i64.wrap ((ls.length : Int) + (ms.length : Int)) = (ls.length : Int) + (ms.length : Int) := IntWalk.i64_in _ (by omega)
    have iL0 : (0 : Int) ≤ (L : Int) := by omega
    have iL1 : (L : Int) < (ls.length : Int) := by omega
    obtain ⟨l, hl⟩ : ∃ l, l = ls.getD L [] := ⟨_, rfl⟩
    rw [← hl] at hcl hlast hlay
    have hl4 : l.length ≤ 4 := by have := net_lay h0 L (by omega); rw [← hl] at this; exact this.2
    clear hL hl h6 h6'
    subst hab
    have g3 : (n' != (l.length : Int)) = true := by simpa using hlast
    clear h h0 h1 hlast hlay
    go_enter Try.func49, Try.ntmps49
    obtain ⟨wb1, hw1⟩ : ∃ wb1 : World, wb1 = w.alloc (.cells #[.int .i64 n, .slice (some ⟨bl, off, none⟩) ls.length c] 65) := ⟨_, rfl⟩
    obtain ⟨wb2, hw2⟩ : ∃ wb2 : World, wb2 = wb1.alloc (.cells #[.int .i64 n', .slice a' ms.length c'] 65) := ⟨_, rfl⟩
    obtain ⟨wb3, hw3⟩ : ∃ wb3 : World, wb3 = wb2.alloc (.cells #[.int .i64 0, .slice none 0 0] 65) := ⟨_, rfl⟩
    have z1 : wb1.heap.size = w.heap.size + 1 := by rw [hw1]; simp
    have z2 : wb2.heap.size = w.heap.size + 2 := by rw [hw2]; simp; omega
    have z3 : wb3.heap.size = w.heap.size + 3 := by rw [hw3]; simp; omega
    have x0_0 := (by rw [hw3]; exact cell_old _ (by rw [hw2]; exact cell_old _ (by rw [hw1]; exact cell_new _ _ _ rfl rfl : wb1.cell? ⟨w.heap.size, 0, none⟩ = some (.int .i64 n)) : wb2.cell? ⟨w.heap.size, 0, none⟩ = some (.int .i64 n)) : wb3.cell? ⟨w.heap.size, 0, none⟩ = some (.int .i64 n))
    have x0_1 := (by rw [hw3]; exact cell_old _ (by rw [hw2]; exact cell_old _ (by rw [hw1]; exact cell_new _ _ _ rfl rfl : wb1.cell? ⟨w.heap.size, 1, none⟩ = some (.slice (some ⟨bl, off, none⟩) ls.length c)) : wb2.cell? ⟨w.heap.size, 1, none⟩ = some (.slice (some ⟨bl, off, none⟩) ls.length c)) : wb3.cell? ⟨w.heap.size, 1, none⟩ = some (.slice (some ⟨bl, off, none⟩) ls.length c))
    have x1_0 := (by rw [hw3]; exact cell_old _ (by rw [hw2]; exact cell_new _ _ _ z1.symm rfl : wb2.cell? ⟨w.heap.size + 1, 0, none⟩ = some (.int .i64 n')) : wb3.cell? ⟨w.heap.size + 1, 0, none⟩ = some (.int .i64 n'))
    have x1_1 := (by rw [hw3]; exact cell_old _ (by rw [hw2]; exact cell_new _ _ _ z1.symm rfl : wb2.cell? ⟨w.heap.size + 1, 1, none⟩ = some (.slice a' ms.length c')) : wb3.cell? ⟨w.heap.size + 1, 1, none⟩ = some (.slice a' ms.length c'))
    have x2_0 := (by rw [hw3]; exact cell_new _ _ _ z2.symm rfl : wb3.cell? ⟨w.heap.size + 2, 0, none⟩ = some (.int .i64 0))
    have x2_1 := (by rw [hw3]; exact cell_new _ _ _ z2.symm rfl : wb3.cell? ⟨w.heap.size + 2, 1, none⟩ = some (.slice none 0 0))
    have HB0 := Lib.hid (show Below w.heap.size w wb3 by rw [hw3]; exact (show Below w.heap.size w wb2 by rw [hw2]; exact (show Below w.heap.size w wb1 by rw [hw1]; exact (Below.refl w.heap.size w).alloc (Nat.le_refl _) _).alloc (by omega) _).alloc (by omega) _)
    have s3 : w.heap.size + 3 ≤ wb3.heap.size := by omega
    have f2_0 := (by rw [hw3]; exact fro_new _ _ _ z2.symm : wb3.frozen? ⟨w.heap.size + 2, 0, none⟩ = false)
    have f2_1 := (by rw [hw3]; exact fro_new _ _ _ z2.symm : wb3.frozen? ⟨w.heap.size + 2, 1, none⟩ = false)
    have HZ3 := Lib.hid z3
    clear z1 z2 z3
    go_wp2_with fail
    rw [← hw1, ← hw2, ← hw3]
    clear hw1 hw2 hw3
    replace hcl := cell_below HB0.out hcl hbl
    have HG := Lib.hid (show ∀ wa : World, Below wb3.heap.size wb3 wa → Calls Try.prog 105 #[.agg #[.int .i64 n, .slice (some ⟨bl, off, none⟩) ls.length c]] wa (RetB true wa) from fun wa hb => spec_good _ ls c n wa ((Hhr.out.below HB0.out).below hb) hn Hhm.out true HN0)
    have HH := Lib.hid (show ∀ wa : World, Below wb3.heap.size wb3 wa → Calls Try.prog 105 #[.agg #[.int .i64 n', .slice a' ms.length c']] wa (RetB true wa) from fun wa hb => spec_good a' ms c' n' wa ((Hhq.out.below HB0.out).below hb) hk Hhp.out true HN1)
    have hbl3 : bl < wb3.heap.size := by omega
    refine wp_region_noPanic ?_
    refine wp_region_held_drew (S := fun w' => w'.cell? ⟨w.heap.size, 0, none⟩ = some (.int .i64 n) ∧ w'.cell? ⟨w.heap.size, 1, none⟩ = some (.slice (some ⟨bl, off, none⟩) ls.length c) ∧ w'.cell? ⟨w.heap.size + 1, 0, none⟩ = some (.int .i64 n') ∧ w'.cell? ⟨w.heap.size + 1, 1, none⟩ = some (.slice a' ms.length c') ∧ w'.cell? ⟨bl, off + L, none⟩ = some (.slice pl l.length cl)) (by kernel_rfl) ?_ (fun hHeld => ?_)
    · exact ⟨x0_0, x0_1, x1_0, x1_1, hcl⟩
    refine wpAnyH_take (i := 0) (v := ?_) rfl (by kernel_rfl) (by kernel_rfl) (by kernel_rfl) (fun _ _ _ h => h) (Or.inl ⟨by rfl, ?_⟩) (by assumption) ?_
    rotate_left
    · intro w9 hSw; (try dsimp only at hSw); go_simp; try with_reducible rfl
    try simp only [List.getElem_toArray, List.getElem_cons_succ, List.getElem_cons_zero, Act.put, List.setIfInBounds_toArray, List.set_cons_zero, List.set_cons_succ]
    refine wpAnyH_ready (rs := [1]) (by kernel_rfl) (by simp) ?_
    refine AllReadyH.cons rfl (fun K hK => ?_) AllReadyH.nil
    clear hHeld
    go_simp
    refine (HG.out _ (Below.refl _ _).drew).mono ?_
    rintro e' v1 ⟨rfl, hb⟩
    have HCv1 := Lib.hid ((Below.refl wb3.heap.size wb3).drew.trans hb)
    have sv1 := HCv1.out.size
    clear hb
    have mv1_0 := cell_below HCv1.out x0_0 (by omega)
    have mv1_1 := cell_below HCv1.out x0_1 (by omega)
    have mv1_2 := cell_below HCv1.out x1_0 (by omega)
    have mv1_3 := cell_below HCv1.out x1_1 (by omega)
    have mv1_4 := cell_below HCv1.out hcl (by omega)
    refine hK.out _ _ ?_ (fun hHeld => ?_)
    · exact ⟨mv1_0, mv1_1, mv1_2, mv1_3, mv1_4⟩
    clear hK K
    try simp only [List.getElem_toArray, List.getElem_cons_succ, List.getElem_cons_zero, Act.put, List.setIfInBounds_toArray, List.set_cons_zero, List.set_cons_succ]
    refine wpAnyH_take (i := 2) (v := ?_) rfl (by kernel_rfl) (by kernel_rfl) (by kernel_rfl) (fun _ _ _ h => h) (Or.inl ⟨by rfl, ?_⟩) (by assumption) ?_
    rotate_left
    · intro w9 hSw; (try dsimp only at hSw); go_simp; try with_reducible rfl
    try simp only [List.getElem_toArray, List.getElem_cons_succ, List.getElem_cons_zero, Act.put, List.setIfInBounds_toArray, List.set_cons_zero, List.set_cons_succ]
    refine wpAnyH_take (i := 3) (v := ?_) rfl (by kernel_rfl) (by kernel_rfl) (by kernel_rfl) (fun _ _ _ h => h) (Or.inl ⟨by rfl, ?_⟩) (by assumption) ?_
    rotate_left
    · intro w9 hSw; (try dsimp only at hSw); go_simp; try with_reducible rfl
    try simp only [List.getElem_toArray, List.getElem_cons_succ, List.getElem_cons_zero, Act.put, List.setIfInBounds_toArray, List.set_cons_zero, List.set_cons_succ]
    refine wpAnyH_take (i := 4) (v := ?_) rfl (by kernel_rfl) (by kernel_rfl) (by kernel_rfl) (fun _ _ _ h => h) (Or.inl ⟨by rfl, ?_⟩) (by assumption) ?_
    rotate_left
    · intro w9 hSw; (try dsimp only at hSw); go_simp; try with_reducible rfl
    try simp only [List.getElem_toArray, List.getElem_cons_succ, List.getElem_cons_zero, Act.put, List.setIfInBounds_toArray, List.set_cons_zero, List.set_cons_succ]
    refine wpAnyH_ready (rs := [5]) (by kernel_rfl) (by simp) ?_
    refine AllReadyH.cons rfl (fun K hK => ?_) AllReadyH.nil
    clear hHeld
    go_simp
    refine (HH.out _ HCv1.out).mono ?_
    rintro e' v2 ⟨rfl, hb⟩
    have HCv2 := Lib.hid (HCv1.out.trans (hb.mono HCv1.out.size))
    have sv2 := HCv2.out.size
    clear hb
    have mv2_0 := cell_below HCv2.out x0_0 (by omega)
    have mv2_1 := cell_below HCv2.out x0_1 (by omega)
    have mv2_2 := cell_below HCv2.out x1_0 (by omega)
    have mv2_3 := cell_below HCv2.out x1_1 (by omega)
    have mv2_4 := cell_below HCv2.out hcl (by omega)
    refine hK.out _ _ ?_ (fun hHeld => ?_)
    · exact ⟨mv2_0, mv2_1, mv2_2, mv2_3, mv2_4⟩
    clear hK K
    try simp only [List.getElem_toArray, List.getElem_cons_succ, List.getElem_cons_zero, Act.put, List.setIfInBounds_toArray, List.set_cons_zero, List.set_cons_succ]
    refine wpAnyH_take (i := 6) (v := ?_) rfl (by kernel_rfl) (by kernel_rfl) (by kernel_rfl) (fun _ _ _ h => h) (Or.inl ⟨by rfl, ?_⟩) (by assumption) ?_
    rotate_left
    · intro w9 hSw; (try dsimp only at hSw); go_simp; try with_reducible rfl
    try simp only [List.getElem_toArray, List.getElem_cons_succ, List.getElem_cons_zero, Act.put, List.setIfInBounds_toArray, List.set_cons_zero, List.set_cons_succ]
    refine wpAnyH_take (i := 7) (v := ?_) rfl (by kernel_rfl) (by kernel_rfl) (by kernel_rfl) (fun _ _ _ h => h) (Or.inl ⟨by rfl, ?_⟩) (by assumption) ?_
    rotate_left
    · intro w9 hSw; (try dsimp only at hSw); go_simp; try with_reducible rfl
    try simp only [List.getElem_toArray, List.getElem_cons_succ, List.getElem_cons_zero, Act.put, List.setIfInBounds_toArray, List.set_cons_zero, List.set_cons_succ]
    refine wpAnyH_take (i := 8) (v := ?_) rfl (by kernel_rfl) (by kernel_rfl) (by kernel_rfl) (fun _ _ _ h => h) (Or.inl ⟨by rfl, ?_⟩) (by assumption) ?_
    rotate_left
    · intro w9 hSw; (try dsimp only at hSw); go_simp; try with_reducible rfl
    try simp only [List.getElem_toArray, List.getElem_cons_succ, List.getElem_cons_zero, Act.put, List.setIfInBounds_toArray, List.set_cons_zero, List.set_cons_succ]
    refine wpAnyH_take (i := 9) (v := ?_) rfl (by kernel_rfl) (by kernel_rfl) (by kernel_rfl) (fun _ _ _ h => h) (Or.inl ⟨by rfl, ?_⟩) (by assumption) ?_
    rotate_left
    · intro w9 hSw; (try dsimp only at hSw); go_simp; try with_reducible rfl
    try simp only [List.getElem_toArray, List.getElem_cons_succ, List.getElem_cons_zero, Act.put, List.setIfInBounds_toArray, List.set_cons_zero, List.set_cons_succ]
    refine wpAnyH_take (i := 10) (v := ?_) rfl (by kernel_rfl) (by kernel_rfl) (by kernel_rfl) (fun _ _ _ h => h) (Or.inl ⟨by rfl, ?_⟩) (by assumption) ?_
    rotate_left
    · intro w9 hSw; (try dsimp only at hSw); go_simp; try with_reducible rfl
    try simp only [List.getElem_toArray, List.getElem_cons_succ, List.getElem_cons_zero, Act.put, List.setIfInBounds_toArray, List.set_cons_zero, List.set_cons_succ]
    refine wpAnyH_take (i := 11) (v := ?_) rfl (by kernel_rfl) (by kernel_rfl) (by kernel_rfl) (fun _ _ _ h => h) (Or.inl ⟨by rfl, ?_⟩) (by assumption) ?_
    rotate_left
    · intro w9 hSw; (try dsimp only at hSw); go_simp; try with_reducible rfl
    try simp only [List.getElem_toArray, List.getElem_cons_succ, List.getElem_cons_zero, Act.put, List.setIfInBounds_toArray, List.set_cons_zero, List.set_cons_succ]
    refine wpAnyH_take (i := 12) (v := ?_) rfl (by kernel_rfl) (by kernel_rfl) (by kernel_rfl) (fun _ _ _ h => h) (Or.inl ⟨by rfl, ?_⟩) (by assumption) ?_
    rotate_left
    · intro w9 hSw; (try dsimp only at hSw); go_simp; try with_reducible rfl
    try simp only [List.getElem_toArray, List.getElem_cons_succ, List.getElem_cons_zero, Act.put, List.setIfInBounds_toArray, List.set_cons_zero, List.set_cons_succ]
    refine wpAnyH_take (i := 13) (v := ?_) rfl (by kernel_rfl) (by kernel_rfl) (by kernel_rfl) (fun _ _ _ h => h) (Or.inl ⟨by rfl, ?_⟩) (by assumption) ?_
    rotate_left
    · intro w9 hSw; (try dsimp only at hSw); go_simp; try with_reducible rfl
    try simp only [List.getElem_toArray, List.getElem_cons_succ, List.getElem_cons_zero, Act.put, List.setIfInBounds_toArray, List.set_cons_zero, List.set_cons_succ]
    refine wpAnyH_take (i := 14) (v := ?_) rfl (by kernel_rfl) (by kernel_rfl) (by kernel_rfl) (fun _ _ _ h => h) (Or.inl ⟨by rfl, ?_⟩) (by assumption) ?_
    rotate_left
    · intro w9 hSw; (try dsimp only at hSw); go_simp; try with_reducible rfl
    try simp only [List.getElem_toArray, List.getElem_cons_succ, List.getElem_cons_zero, Act.put, List.setIfInBounds_toArray, List.set_cons_zero, List.set_cons_succ]
    refine wpAnyH_take (i := 15) (v := ?_) rfl (by kernel_rfl) (by kernel_rfl) (by kernel_rfl) (fun _ _ _ h => h) (Or.inl ⟨by rfl, ?_⟩) (by assumption) ?_
    rotate_left
    · intro w9 hSw; (try dsimp only at hSw); go_simp; try with_reducible rfl
    try simp only [List.getElem_toArray, List.getElem_cons_succ, List.getElem_cons_zero, Act.put, List.setIfInBounds_toArray, List.set_cons_zero, List.set_cons_succ]
    refine wpAnyH_take (i := 16) (v := ?_) rfl (by kernel_rfl) (by kernel_rfl) (by kernel_rfl) (fun _ _ _ h => h) (Or.inl ⟨by rfl, ?_⟩) (by assumption) ?_
    rotate_left
    · intro w9 hSw; (try dsimp only at hSw); go_simp; try with_reducible rfl
    try simp only [List.getElem_toArray, List.getElem_cons_succ, List.getElem_cons_zero, Act.put, List.setIfInBounds_toArray, List.set_cons_zero, List.set_cons_succ]
    refine wpAnyH_take (i := 17) (v := ?_) rfl (by kernel_rfl) (by kernel_rfl) (by kernel_rfl) (fun _ _ _ h => h) (Or.inl ⟨by rfl, ?_⟩) (by assumption) ?_
    rotate_left
    · intro w9 hSw; (try dsimp only at hSw); go_simp; try with_reducible rfl
    try simp only [List.getElem_toArray, List.getElem_cons_succ, List.getElem_cons_zero, Act.put, List.setIfInBounds_toArray, List.set_cons_zero, List.set_cons_succ]
    refine wpAnyH_take (i := 18) (v := ?_) rfl (by kernel_rfl) (by kernel_rfl) (by kernel_rfl) (fun _ _ _ h => h) (Or.inl ⟨by rfl, ?_⟩) (by assumption) ?_
    rotate_left
    · intro w9 hSw; (try dsimp only at hSw); go_simp; try with_reducible rfl
    try simp only [List.getElem_toArray, List.getElem_cons_succ, List.getElem_cons_zero, Act.put, List.setIfInBounds_toArray, List.set_cons_zero, List.set_cons_succ]
    refine wpAnyH_take (i := 19) (v := ?_) rfl (by kernel_rfl) (by kernel_rfl) (by kernel_rfl) (fun _ _ _ h => h) (Or.inl ⟨by rfl, ?_⟩) (by assumption) ?_
    rotate_left
    · intro w9 hSw; (try dsimp only at hSw); go_simp; try with_reducible rfl
    try simp only [List.getElem_toArray, List.getElem_cons_succ, List.getElem_cons_zero, Act.put, List.setIfInBounds_toArray, List.set_cons_zero, List.set_cons_succ]
    refine wpAnyH_take (i := 20) (v := ?_) rfl (by kernel_rfl) (by kernel_rfl) (by kernel_rfl) (fun _ _ _ h => h) (Or.inl ⟨by rfl, ?_⟩) (by assumption) ?_
    rotate_left
    · intro w9 hSw; (try dsimp only at hSw); go_simp; try with_reducible rfl
    try simp only [List.getElem_toArray, List.getElem_cons_succ, List.getElem_cons_zero, Act.put, List.setIfInBounds_toArray, List.set_cons_zero, List.set_cons_succ]
    refine wpAnyH_take (i := 21) (v := ?_) rfl (by kernel_rfl) (by kernel_rfl) (by kernel_rfl) (fun _ _ _ h => h) (Or.inl ⟨by rfl, ?_⟩) (by assumption) ?_
    rotate_left
    · intro w9 hSw; (try dsimp only at hSw); go_simp; try with_reducible rfl
    try simp only [List.getElem_toArray, List.getElem_cons_succ, List.getElem_cons_zero, Act.put, List.setIfInBounds_toArray, List.set_cons_zero, List.set_cons_succ]
    refine wpAnyH_take (i := 22) (v := ?_) rfl (by kernel_rfl) (by kernel_rfl) (by kernel_rfl) (fun _ _ _ h => h) (Or.inl ⟨by rfl, ?_⟩) (by assumption) ?_
    rotate_left
    · intro w9 hSw; (try dsimp only at hSw); go_simp; try with_reducible rfl
    try simp only [List.getElem_toArray, List.getElem_cons_succ, List.getElem_cons_zero, Act.put, List.setIfInBounds_toArray, List.set_cons_zero, List.set_cons_succ]
    refine wpAnyH_take (i := 23) (v := undef) rfl (by kernel_rfl) (by kernel_rfl) (by kernel_rfl) (fun _ _ _ h => h) (Or.inr ⟨by rfl, rfl⟩) (by assumption) ?_
    try simp only [List.getElem_toArray, List.getElem_cons_succ, List.getElem_cons_zero, Act.put, List.setIfInBounds_toArray, List.set_cons_zero, List.set_cons_succ]
    refine wpAnyH_take (i := 24) (v := undef) rfl (by kernel_rfl) (by kernel_rfl) (by kernel_rfl) (fun _ _ _ h => h) (Or.inr ⟨by rfl, rfl⟩) (by assumption) ?_
    try simp only [List.getElem_toArray, List.getElem_cons_succ, List.getElem_cons_zero, Act.put, List.setIfInBounds_toArray, List.set_cons_zero, List.set_cons_succ]
    refine wpAnyH_take (i := 25) (v := undef) rfl (by kernel_rfl) (by kernel_rfl) (by kernel_rfl) (fun _ _ _ h => h) (Or.inr ⟨by rfl, rfl⟩) (by assumption) ?_
    try simp only [List.getElem_toArray, List.getElem_cons_succ, List.getElem_cons_zero, Act.put, List.setIfInBounds_toArray, List.set_cons_zero, List.set_cons_succ]
    refine wpAnyH_take (i := 26) (v := undef) rfl (by kernel_rfl) (by kernel_rfl) (by kernel_rfl) (fun _ _ _ h => h) (Or.inr ⟨by rfl, rfl⟩) (by assumption) ?_
    try simp only [List.getElem_toArray, List.getElem_cons_succ, List.getElem_cons_zero, Act.put, List.setIfInBounds_toArray, List.set_cons_zero, List.set_cons_succ]
    refine wpAnyH_take (i := 27) (v := undef) rfl (by kernel_rfl) (by kernel_rfl) (by kernel_rfl) (fun _ _ _ h => h) (Or.inr ⟨by rfl, rfl⟩) (by assumption) ?_
    try simp only [List.getElem_toArray, List.getElem_cons_succ, List.getElem_cons_zero, Act.put, List.setIfInBounds_toArray, List.set_cons_zero, List.set_cons_succ]
    refine wpAnyH_take (i := 28) (v := undef) rfl (by kernel_rfl) (by kernel_rfl) (by kernel_rfl) (fun _ _ _ h => h) (Or.inr ⟨by rfl, rfl⟩) (by assumption) ?_
    try simp only [List.getElem_toArray, List.getElem_cons_succ, List.getElem_cons_zero, Act.put, List.setIfInBounds_toArray, List.set_cons_zero, List.set_cons_succ]
    refine wpAnyH_take (i := 29) (v := undef) rfl (by kernel_rfl) (by kernel_rfl) (by kernel_rfl) (fun _ _ _ h => h) (Or.inr ⟨by rfl, rfl⟩) (by assumption) ?_
    try simp only [List.getElem_toArray, List.getElem_cons_succ, List.getElem_cons_zero, Act.put, List.setIfInBounds_toArray, List.set_cons_zero, List.set_cons_succ]
    refine wpAnyH_take (i := 30) (v := undef) rfl (by kernel_rfl) (by kernel_rfl) (by kernel_rfl) (fun _ _ _ h => h) (Or.inr ⟨by rfl, rfl⟩) (by assumption) ?_
    try simp only [List.getElem_toArray, List.getElem_cons_succ, List.getElem_cons_zero, Act.put, List.setIfInBounds_toArray, List.set_cons_zero, List.set_cons_succ]
    refine wpAnyH_take (i := 31) (v := ?_) rfl (by kernel_rfl) (by kernel_rfl) (by kernel_rfl) (fun _ _ _ h => h) (Or.inl ⟨by rfl, ?_⟩) (by assumption) ?_
    rotate_left
    · intro w9 hSw; (try dsimp only at hSw); go_simp; try with_reducible rfl
    try simp only [List.getElem_toArray, List.getElem_cons_succ, List.getElem_cons_zero, Act.put, List.setIfInBounds_toArray, List.set_cons_zero, List.set_cons_succ]
    refine wpAnyH_done (by kernel_rfl) ?_ _
    refine NoPanic.normal ?_
    replace x2_0 := cell_below HCv2.out x2_0 (by omega)
    replace x2_1 := cell_below HCv2.out x2_1 (by omega)
    replace f2_0 := fro_below HCv2.out f2_0 (by omega)
    replace f2_1 := fro_below HCv2.out f2_1 (by omega)
    have HBn := Lib.hid (HB0.out.trans (HCv2.out.mono (by omega)))
    go_wp2_with fail
    refine bodyPost_ret (v := .tuple #[.agg #[.int .i64 0, .slice none 0 0], .bool false]) (by simp [results, Try.results49, go_sem, x2_0, x2_1, f2_0, f2_1]) rfl ⟨_, rfl, ?_, ?_⟩
    · exact OwnL.nil _ _ _
    · exact ((HBn.out.setCell (by simp; omega) _).setCell (by simp; omega) _)
set_option maxRecDepth 100000 in
set_option maxHeartbeats 1600000 in
theorem spec_an_yes (a : Option Addr) (ls : List (List (List Int × Int))) (c : Nat) (n : Int) (a' : Option Addr) (ms : List (List (List Int × Int))) (c' : Nat) (n' : Int) (w : World) (hr : ReadsL w a ls) (hq : ReadsL w a' ms) (hn : ls.length ≤ 1048576) (hk : ms.length ≤ 1048576) (hm : ∀ x ∈ ls, x.length ≤ 1048576 ∧ ∀ y ∈ x, y.1.length ≤ 1048576) (hp : ∀ x ∈ ms, x.length ≤ 1048576 ∧ ∀ y ∈ x, y.1.length ≤ 1048576) (h : anB n ls n' ms = true) :
    Calls Try.prog 49 #[.agg #[.int .i64 n, .slice a ls.length c], .agg #[.int .i64 n', .slice a' ms.length c']] w (RetTB (ls ++ ms) n true w) := by
  obtain ⟨j0, hj0, hjz0, hjz1, hjz2⟩ := info_parts infoJ
  have Hhr := Lib.hid hr
  have Hhq := Lib.hid hq
  have Hhm := Lib.hid hm
  have Hhp := Lib.hid hp
  clear hr hq hm hp
  obtain ⟨h0, h1, hlast, hle⟩ := (anB_iff _ _ _ _).1 h
  have HN0 := Lib.hid h0
  have HN1 := Lib.hid h1
  have HMS := Lib.hid (show 1 ≤ ls.length ∧ 1 ≤ ms.length ∧ ls.length + ms.length ≤ 6 from ⟨(net_len h0).1, (net_len h1).1, hle⟩)
  have h6 := net_len h0
  have h6' := net_len h1
  obtain ⟨L, hL⟩ : ∃ L : Nat, ls.length = L + 1 := ⟨ls.length - 1, by omega⟩
  have HLL := Lib.hid hL
  rw [show ls.length - 1 = L by omega] at hlast
  obtain ⟨bl, off, pl, cl, hab, hbl, hcl, _, hlay⟩ := Hhr.out.at (k := L) (by omega)
  have eL : IntKind.i64.wrap ((ls.length : Int) - 1) = (L : Int) := by rw [IntWalk.i64_in _ (by omega)]; omega
  have eS : IntKind.i64.wrap ((ls.length : Int) + (ms.length : Int)) = (ls.length : Int) + (ms.length : Int) := IntWalk.i64_in _ (by omega)
  have iL0 : (0 : Int) ≤ (L : Int) := by omega
  have iL1 : (L : Int) < (ls.length : Int) := by omega
  obtain ⟨l, hl⟩ : ∃ l, l = ls.getD L [] := ⟨_, rfl⟩
  rw [← hl] at hcl hlast hlay
  have hl4 : l.length ≤ 4 := by have := net_lay h0 L (by omega); rw [← hl] at this; exact this.2
  clear hL hl h6 h6'
  subst hab
  have g3 : (n' != (l.length : Int)) = false := by rw [hlast]; simp
  have g4 : decide ((6 : Int) < (ls.length : Int) + (ms.length : Int)) = false := decide_eq_false (by omega)
  clear h h0 h1 hlast hle hlay
  go_enter Try.func49, Try.ntmps49
  obtain ⟨wb1, hw1⟩ : ∃ wb1 : World, wb1 = w.alloc (.cells #[.int .i64 n, .slice (some ⟨bl, off, none⟩) ls.length c] 65) := ⟨_, rfl⟩
  obtain ⟨wb2, hw2⟩ : ∃ wb2 : World, wb2 = wb1.alloc (.cells #[.int .i64 n', .slice a' ms.length c'] 65) := ⟨_, rfl⟩
  obtain ⟨wb3, hw3⟩ : ∃ wb3 : World, wb3 = wb2.alloc (.cells #[.int .i64 0, .slice none 0 0] 65) := ⟨_, rfl⟩
  have z1 : wb1.heap.size = w.heap.size + 1 := by rw [hw1]; simp
  have z2 : wb2.heap.size = w.heap.size + 2 := by rw [hw2]; simp; omega
  have z3 : wb3.heap.size = w.heap.size + 3 := by rw [hw3]; simp; omega
  have x0_0 := (by rw [hw3]; exact cell_old _ (by rw [hw2]; exact cell_old _ (by rw [hw1]; exact cell_new _ _ _ rfl rfl : wb1.cell? ⟨w.heap.size, 0, none⟩ = some (.int .i64 n)) : wb2.cell? ⟨w.heap.size, 0, none⟩ = some (.int .i64 n)) : wb3.cell? ⟨w.heap.size, 0, none⟩ = some (.int .i64 n))
  have x0_1 := (by rw [hw3]; exact cell_old _ (by rw [hw2]; exact cell_old _ (by rw [hw1]; exact cell_new _ _ _ rfl rfl : wb1.cell? ⟨w.heap.size, 1, none⟩ = some (.slice (some ⟨bl, off, none⟩) ls.length c)) : wb2.cell? ⟨w.heap.size, 1, none⟩ = some (.slice (some ⟨bl, off, none⟩) ls.length c)) : wb3.cell? ⟨w.heap.size, 1, none⟩ = some (.slice (some ⟨bl, off, none⟩) ls.length c))
  have x1_0 := (by rw [hw3]; exact cell_old _ (by rw [hw2]; exact cell_new _ _ _ z1.symm rfl : wb2.cell? ⟨w.heap.size + 1, 0, none⟩ = some (.int .i64 n')) : wb3.cell? ⟨w.heap.size + 1, 0, none⟩ = some (.int .i64 n'))
  have x1_1 := (by rw [hw3]; exact cell_old _ (by rw [hw2]; exact cell_new _ _ _ z1.symm rfl : wb2.cell? ⟨w.heap.size + 1, 1, none⟩ = some (.slice a' ms.length c')) : wb3.cell? ⟨w.heap.size + 1, 1, none⟩ = some (.slice a' ms.length c'))
  have x2_0 := (by rw [hw3]; exact cell_new _ _ _ z2.symm rfl : wb3.cell? ⟨w.heap.size + 2, 0, none⟩ = some (.int .i64 0))
  have x2_1 := (by rw [hw3]; exact cell_new _ _ _ z2.symm rfl : wb3.cell? ⟨w.heap.size + 2, 1, none⟩ = some (.slice none 0 0))
  have HB0 := Lib.hid (show Below w.heap.size w wb3 by rw [hw3]; exact (show Below w.heap.size w wb2 by rw [hw2]; exact (show Below w.heap.size w wb1 by rw [hw1]; exact (Below.refl w.heap.size w).alloc (Nat.le_refl _) _).alloc (by omega) _).alloc (by omega) _)
  have s3 : w.heap.size + 3 ≤ wb3.heap.size := by omega
  have f2_0 := (by rw [hw3]; exact fro_new _ _ _ z2.symm : wb3.frozen? ⟨w.heap.size + 2, 0, none⟩ = false)
  have f2_1 := (by rw [hw3]; exact fro_new _ _ _ z2.symm : wb3.frozen? ⟨w.heap.size + 2, 1, none⟩ = false)
  have HZ3 := Lib.hid z3
  clear z1 z2 z3
  go_wp2_with fail
  rw [← hw1, ← hw2, ← hw3]
  clear hw1 hw2 hw3
  replace hcl := cell_below HB0.out hcl hbl
  have HG := Lib.hid (show ∀ wa : World, Below wb3.heap.size wb3 wa → Calls Try.prog 105 #[.agg #[.int .i64 n, .slice (some ⟨bl, off, none⟩) ls.length c]] wa (RetB true wa) from fun wa hb => spec_good _ ls c n wa ((Hhr.out.below HB0.out).below hb) hn Hhm.out true HN0)
  have HH := Lib.hid (show ∀ wa : World, Below wb3.heap.size wb3 wa → Calls Try.prog 105 #[.agg #[.int .i64 n', .slice a' ms.length c']] wa (RetB true wa) from fun wa hb => spec_good a' ms c' n' wa ((Hhq.out.below HB0.out).below hb) hk Hhp.out true HN1)
  have hbl3 : bl < wb3.heap.size := by omega
  refine wp_region_noPanic ?_
  refine wp_region_held_drew (S := fun w' => w'.cell? ⟨w.heap.size, 0, none⟩ = some (.int .i64 n) ∧ w'.cell? ⟨w.heap.size, 1, none⟩ = some (.slice (some ⟨bl, off, none⟩) ls.length c) ∧ w'.cell? ⟨w.heap.size + 1, 0, none⟩ = some (.int .i64 n') ∧ w'.cell? ⟨w.heap.size + 1, 1, none⟩ = some (.slice a' ms.length c') ∧ w'.cell? ⟨bl, off + L, none⟩ = some (.slice pl l.length cl)) (by kernel_rfl) ?_ (fun hHeld => ?_)
  · exact ⟨x0_0, x0_1, x1_0, x1_1, hcl⟩
  refine wpAnyH_take (i := 0) (v := ?_) rfl (by kernel_rfl) (by kernel_rfl) (by kernel_rfl) (fun _ _ _ h => h) (Or.inl ⟨by rfl, ?_⟩) (by assumption) ?_
  rotate_left
  · intro w9 hSw; (try dsimp only at hSw); go_simp; try with_reducible rfl
  try simp only [List.getElem_toArray, List.getElem_cons_succ, List.getElem_cons_zero, Act.put, List.setIfInBounds_toArray, List.set_cons_zero, List.set_cons_succ]
  refine wpAnyH_ready (rs := [1]) (by kernel_rfl) (by simp) ?_
  refine AllReadyH.cons rfl (fun K hK => ?_) AllReadyH.nil
  clear hHeld
  go_simp
  refine (HG.out _ (Below.refl _ _).drew).mono ?_
  rintro e' v1 ⟨rfl, hb⟩
  have HCv1 := Lib.hid ((Below.refl wb3.heap.size wb3).drew.trans hb)
  have sv1 := HCv1.out.size
  clear hb
  have mv1_0 := cell_below HCv1.out x0_0 (by omega)
  have mv1_1 := cell_below HCv1.out x0_1 (by omega)
  have mv1_2 := cell_below HCv1.out x1_0 (by omega)
  have mv1_3 := cell_below HCv1.out x1_1 (by omega)
  have mv1_4 := cell_below HCv1.out hcl (by omega)
  refine hK.out _ _ ?_ (fun hHeld => ?_)
  · exact ⟨mv1_0, mv1_1, mv1_2, mv1_3, mv1_4⟩
  clear hK K
  try simp only [List.getElem_toArray, List.getElem_cons_succ, List.getElem_cons_zero, Act.put, List.setIfInBounds_toArray, List.set_cons_zero, List.set_cons_succ]
  refine wpAnyH_take (i := 2) (v := ?_) rfl (by kernel_rfl) (by kernel_rfl) (by kernel_rfl) (fun _ _ _ h => h) (Or.inl ⟨by rfl, ?_⟩) (by assumption) ?_
  rotate_left
  · intro w9 hSw; (try dsimp only at hSw); go_simp; try with_reducible rfl
  try simp only [List.getElem_toArray, List.getElem_cons_succ, List.getElem_cons_zero, Act.put, List.setIfInBounds_toArray, List.set_cons_zero, List.set_cons_succ]
  refine wpAnyH_take (i := 3) (v := ?_) rfl (by kernel_rfl) (by kernel_rfl) (by kernel_rfl) (fun _ _ _ h => h) (Or.inl ⟨by rfl, ?_⟩) (by assumption) ?_
  rotate_left
  · intro w9 hSw; (try dsimp only at hSw); go_simp; try with_reducible rfl
  try simp only [List.getElem_toArray, List.getElem_cons_succ, List.getElem_cons_zero, Act.put, List.setIfInBounds_toArray, List.set_cons_zero, List.set_cons_succ]
  refine wpAnyH_take (i := 4) (v := ?_) rfl (by kernel_rfl) (by kernel_rfl) (by kernel_rfl) (fun _ _ _ h => h) (Or.inl ⟨by rfl, ?_⟩) (by assumption) ?_
  rotate_left
  · intro w9 hSw; (try dsimp only at hSw); go_simp; try with_reducible rfl
  try simp only [List.getElem_toArray, List.getElem_cons_succ, List.getElem_cons_zero, Act.put, List.setIfInBounds_toArray, List.set_cons_zero, List.set_cons_succ]
  refine wpAnyH_ready (rs := [5]) (by kernel_rfl) (by simp) ?_
  refine AllReadyH.cons rfl (fun K hK => ?_) AllReadyH.nil
  clear hHeld
  go_simp
  refine (HH.out _ HCv1.out).mono ?_
  rintro e' v2 ⟨rfl, hb⟩
  have HCv2 := Lib.hid (HCv1.out.trans (hb.mono HCv1.out.size))
  have sv2 := HCv2.out.size
  clear hb
  have mv2_0 := cell_below HCv2.out x0_0 (by omega)
  have mv2_1 := cell_below HCv2.out x0_1 (by omega)
  have mv2_2 := cell_below HCv2.out x1_0 (by omega)
  have mv2_3 := cell_below HCv2.out x1_1 (by omega)
  have mv2_4 := cell_below HCv2.out hcl (by omega)
  refine hK.out _ _ ?_ (fun hHeld => ?_)
  · exact ⟨mv2_0, mv2_1, mv2_2, mv2_3, mv2_4⟩
  clear hK K
  try simp only [List.getElem_toArray, List.getElem_cons_succ, List.getElem_cons_zero, Act.put, List.setIfInBounds_toArray, List.set_cons_zero, List.set_cons_succ]
  refine wpAnyH_take (i := 6) (v := ?_) rfl (by kernel_rfl) (by kernel_rfl) (by kernel_rfl) (fun _ _ _ h => h) (Or.inl ⟨by rfl, ?_⟩) (by assumption) ?_
  rotate_left
  · intro w9 hSw; (try dsimp only at hSw); go_simp; try with_reducible rfl
  try simp only [List.getElem_toArray, List.getElem_cons_succ, List.getElem_cons_zero, Act.put, List.setIfInBounds_toArray, List.set_cons_zero, List.set_cons_succ]
  refine wpAnyH_take (i := 7) (v := ?_) rfl (by kernel_rfl) (by kernel_rfl) (by kernel_rfl) (fun _ _ _ h => h) (Or.inl ⟨by rfl, ?_⟩) (by assumption) ?_
  rotate_left
  · intro w9 hSw; (try dsimp only at hSw); go_simp; try with_reducible rfl
  try simp only [List.getElem_toArray, List.getElem_cons_succ, List.getElem_cons_zero, Act.put, List.setIfInBounds_toArray, List.set_cons_zero, List.set_cons_succ]
  refine wpAnyH_take (i := 8) (v := ?_) rfl (by kernel_rfl) (by kernel_rfl) (by kernel_rfl) (fun _ _ _ h => h) (Or.inl ⟨by rfl, ?_⟩) (by assumption) ?_
  rotate_left
  · intro w9 hSw; (try dsimp only at hSw); go_simp; try with_reducible rfl
  try simp only [List.getElem_toArray, List.getElem_cons_succ, List.getElem_cons_zero, Act.put, List.setIfInBounds_toArray, List.set_cons_zero, List.set_cons_succ]
  refine wpAnyH_take (i := 9) (v := ?_) rfl (by kernel_rfl) (by kernel_rfl) (by kernel_rfl) (fun _ _ _ h => h) (Or.inl ⟨by rfl, ?_⟩) (by assumption) ?_
  rotate_left
  · intro w9 hSw; (try dsimp only at hSw); go_simp; try with_reducible rfl
  try simp only [List.getElem_toArray, List.getElem_cons_succ, List.getElem_cons_zero, Act.put, List.setIfInBounds_toArray, List.set_cons_zero, List.set_cons_succ]
  refine wpAnyH_take (i := 10) (v := ?_) rfl (by kernel_rfl) (by kernel_rfl) (by kernel_rfl) (fun _ _ _ h => h) (Or.inl ⟨by rfl, ?_⟩) (by assumption) ?_
  rotate_left
  · intro w9 hSw; (try dsimp only at hSw); go_simp; try with_reducible rfl
  try simp only [List.getElem_toArray, List.getElem_cons_succ, List.getElem_cons_zero, Act.put, List.setIfInBounds_toArray, List.set_cons_zero, List.set_cons_succ]
  refine wpAnyH_take (i := 11) (v := ?_) rfl (by kernel_rfl) (by kernel_rfl) (by kernel_rfl) (fun _ _ _ h => h) (Or.inl ⟨by rfl, ?_⟩) (by assumption) ?_
  rotate_left
  · intro w9 hSw; (try dsimp only at hSw); go_simp; try with_reducible rfl
  try simp only [List.getElem_toArray, List.getElem_cons_succ, List.getElem_cons_zero, Act.put, List.setIfInBounds_toArray, List.set_cons_zero, List.set_cons_succ]
  refine wpAnyH_take (i := 12) (v := ?_) rfl (by kernel_rfl) (by kernel_rfl) (by kernel_rfl) (fun _ _ _ h => h) (Or.inl ⟨by rfl, ?_⟩) (by assumption) ?_
  rotate_left
  · intro w9 hSw; (try dsimp only at hSw); go_simp; try with_reducible rfl
  try simp only [List.getElem_toArray, List.getElem_cons_succ, List.getElem_cons_zero, Act.put, List.setIfInBounds_toArray, List.set_cons_zero, List.set_cons_succ]
  refine wpAnyH_take (i := 13) (v := ?_) rfl (by kernel_rfl) (by kernel_rfl) (by kernel_rfl) (fun _ _ _ h => h) (Or.inl ⟨by rfl, ?_⟩) (by assumption) ?_
  rotate_left
  · intro w9 hSw; (try dsimp only at hSw); go_simp; try with_reducible rfl
  try simp only [List.getElem_toArray, List.getElem_cons_succ, List.getElem_cons_zero, Act.put, List.setIfInBounds_toArray, List.set_cons_zero, List.set_cons_succ]
  refine wpAnyH_take (i := 14) (v := ?_) rfl (by kernel_rfl) (by kernel_rfl) (by kernel_rfl) (fun _ _ _ h => h) (Or.inl ⟨by rfl, ?_⟩) (by assumption) ?_
  rotate_left
  · intro w9 hSw; (try dsimp only at hSw); go_simp; try with_reducible rfl
  try simp only [List.getElem_toArray, List.getElem_cons_succ, List.getElem_cons_zero, Act.put, List.setIfInBounds_toArray, List.set_cons_zero, List.set_cons_succ]
  refine wpAnyH_take (i := 15) (v := ?_) rfl (by kernel_rfl) (by kernel_rfl) (by kernel_rfl) (fun _ _ _ h => h) (Or.inl ⟨by rfl, ?_⟩) (by assumption) ?_
  rotate_left
  · intro w9 hSw; (try dsimp only at hSw); go_simp; try with_reducible rfl
  try simp only [List.getElem_toArray, List.getElem_cons_succ, List.getElem_cons_zero, Act.put, List.setIfInBounds_toArray, List.set_cons_zero, List.set_cons_succ]
  refine wpAnyH_take (i := 16) (v := ?_) rfl (by kernel_rfl) (by kernel_rfl) (by kernel_rfl) (fun _ _ _ h => h) (Or.inl ⟨by rfl, ?_⟩) (by assumption) ?_
  rotate_left
  · intro w9 hSw; (try dsimp only at hSw); go_simp; try with_reducible rfl
  try simp only [List.getElem_toArray, List.getElem_cons_succ, List.getElem_cons_zero, Act.put, List.setIfInBounds_toArray, List.set_cons_zero, List.set_cons_succ]
  refine wpAnyH_take (i := 17) (v := ?_) rfl (by kernel_rfl) (by kernel_rfl) (by kernel_rfl) (fun _ _ _ h => h) (Or.inl ⟨by rfl, ?_⟩) (by assumption) ?_
  rotate_left
  · intro w9 hSw; (try dsimp only at hSw); go_simp; try with_reducible rfl
  try simp only [List.getElem_toArray, List.getElem_cons_succ, List.getElem_cons_zero, Act.put, List.setIfInBounds_toArray, List.set_cons_zero, List.set_cons_succ]
  refine wpAnyH_take (i := 18) (v := ?_) rfl (by kernel_rfl) (by kernel_rfl) (by kernel_rfl) (fun _ _ _ h => h) (Or.inl ⟨by rfl, ?_⟩) (by assumption) ?_
  rotate_left
  · intro w9 hSw; (try dsimp only at hSw); go_simp; try with_reducible rfl
  try simp only [List.getElem_toArray, List.getElem_cons_succ, List.getElem_cons_zero, Act.put, List.setIfInBounds_toArray, List.set_cons_zero, List.set_cons_succ]
  refine wpAnyH_take (i := 19) (v := ?_) rfl (by kernel_rfl) (by kernel_rfl) (by kernel_rfl) (fun _ _ _ h => h) (Or.inl ⟨by rfl, ?_⟩) (by assumption) ?_
  rotate_left
  · intro w9 hSw; (try dsimp only at hSw); go_simp; try with_reducible rfl
  try simp only [List.getElem_toArray, List.getElem_cons_succ, List.getElem_cons_zero, Act.put, List.setIfInBounds_toArray, List.set_cons_zero, List.set_cons_succ]
  refine wpAnyH_take (i := 20) (v := ?_) rfl (by kernel_rfl) (by kernel_rfl) (by kernel_rfl) (fun _ _ _ h => h) (Or.inl ⟨by rfl, ?_⟩) (by assumption) ?_
  rotate_left
  · intro w9 hSw; (try dsimp only at hSw); go_simp; try with_reducible rfl
  try simp only [List.getElem_toArray, List.getElem_cons_succ, List.getElem_cons_zero, Act.put, List.setIfInBounds_toArray, List.set_cons_zero, List.set_cons_succ]
  refine wpAnyH_take (i := 21) (v := ?_) rfl (by kernel_rfl) (by kernel_rfl) (by kernel_rfl) (fun _ _ _ h => h) (Or.inl ⟨by rfl, ?_⟩) (by assumption) ?_
  rotate_left
  · intro w9 hSw; (try dsimp only at hSw); go_simp; try with_reducible rfl
  try simp only [List.getElem_toArray, List.getElem_cons_succ, List.getElem_cons_zero, Act.put, List.setIfInBounds_toArray, List.set_cons_zero, List.set_cons_succ]
  refine wpAnyH_take (i := 22) (v := ?_) rfl (by kernel_rfl) (by kernel_rfl) (by kernel_rfl) (fun _ _ _ h => h) (Or.inl ⟨by rfl, ?_⟩) (by assumption) ?_
  rotate_left
  · intro w9 hSw; (try dsimp only at hSw); go_simp; try with_reducible rfl
  try simp only [List.getElem_toArray, List.getElem_cons_succ, List.getElem_cons_zero, Act.put, List.setIfInBounds_toArray, List.set_cons_zero, List.set_cons_succ]
  refine wpAnyH_take (i := 23) (v := ?_) rfl (by kernel_rfl) (by kernel_rfl) (by kernel_rfl) (fun _ _ _ h => h) (Or.inl ⟨by rfl, ?_⟩) (by assumption) ?_
  rotate_left
  · intro w9 hSw; (try dsimp only at hSw); go_simp; try with_reducible rfl
  try simp only [List.getElem_toArray, List.getElem_cons_succ, List.getElem_cons_zero, Act.put, List.setIfInBounds_toArray, List.set_cons_zero, List.set_cons_succ]
  refine wpAnyH_take (i := 24) (v := ?_) rfl (by kernel_rfl) (by kernel_rfl) (by kernel_rfl) (fun _ _ _ h => h) (Or.inl ⟨by rfl, ?_⟩) (by assumption) ?_
  rotate_left
  · intro w9 hSw; (try dsimp only at hSw); go_simp; try with_reducible rfl
  try simp only [List.getElem_toArray, List.getElem_cons_succ, List.getElem_cons_zero, Act.put, List.setIfInBounds_toArray, List.set_cons_zero, List.set_cons_succ]
  refine wpAnyH_take (i := 25) (v := ?_) rfl (by kernel_rfl) (by kernel_rfl) (by kernel_rfl) (fun _ _ _ h => h) (Or.inl ⟨by rfl, ?_⟩) (by assumption) ?_
  rotate_left
  · intro w9 hSw; (try dsimp only at hSw); go_simp; try with_reducible rfl
  try simp only [List.getElem_toArray, List.getElem_cons_succ, List.getElem_cons_zero, Act.put, List.setIfInBounds_toArray, List.set_cons_zero, List.set_cons_succ]
  refine wpAnyH_take (i := 26) (v := ?_) rfl (by kernel_rfl) (by kernel_rfl) (by kernel_rfl) (fun _ _ _ h => h) (Or.inl ⟨by rfl, ?_⟩) (by assumption) ?_
  rotate_left
  · intro w9 hSw; (try dsimp only at hSw); go_simp; try with_reducible rfl
  try simp only [List.getElem_toArray, List.getElem_cons_succ, List.getElem_cons_zero, Act.put, List.setIfInBounds_toArray, List.set_cons_zero, List.set_cons_succ]
  refine wpAnyH_take (i := 27) (v := ?_) rfl (by kernel_rfl) (by kernel_rfl) (by kernel_rfl) (fun _ _ _ h => h) (Or.inl ⟨by rfl, ?_⟩) (by assumption) ?_
  rotate_left
  · intro w9 hSw; (try dsimp only at hSw); go_simp; try with_reducible rfl
  try simp only [List.getElem_toArray, List.getElem_cons_succ, List.getElem_cons_zero, Act.put, List.setIfInBounds_toArray, List.set_cons_zero, List.set_cons_succ]
  refine wpAnyH_take (i := 28) (v := ?_) rfl (by kernel_rfl) (by kernel_rfl) (by kernel_rfl) (fun _ _ _ h => h) (Or.inl ⟨by rfl, ?_⟩) (by assumption) ?_
  rotate_left
  · intro w9 hSw; (try dsimp only at hSw); go_simp; try with_reducible rfl
  try simp only [List.getElem_toArray, List.getElem_cons_succ, List.getElem_cons_zero, Act.put, List.setIfInBounds_toArray, List.set_cons_zero, List.set_cons_succ]
  refine wpAnyH_take (i := 29) (v := ?_) rfl (by kernel_rfl) (by kernel_rfl) (by kernel_rfl) (fun _ _ _ h => h) (Or.inl ⟨by rfl, ?_⟩) (by assumption) ?_
  rotate_left
  · intro w9 hSw; (try dsimp only at hSw); go_simp; try with_reducible rfl
  try simp only [List.getElem_toArray, List.getElem_cons_succ, List.getElem_cons_zero, Act.put, List.setIfInBounds_toArray, List.set_cons_zero, List.set_cons_succ]
  refine wpAnyH_take (i := 30) (v := ?_) rfl (by kernel_rfl) (by kernel_rfl) (by kernel_rfl) (fun _ _ _ h => h) (Or.inl ⟨by rfl, ?_⟩) (by assumption) ?_
  rotate_left
  · intro w9 hSw; (try dsimp only at hSw); go_simp; try with_reducible rfl
  try simp only [List.getElem_toArray, List.getElem_cons_succ, List.getElem_cons_zero, Act.put, List.setIfInBounds_toArray, List.set_cons_zero, List.set_cons_succ]
  refine wpAnyH_take (i := 31) (v := ?_) rfl (by kernel_rfl) (by kernel_rfl) (by kernel_rfl) (fun _ _ _ h => h) (Or.inl ⟨by rfl, ?_⟩) (by assumption) ?_
  rotate_left
  · intro w9 hSw; (try dsimp only at hSw); go_simp; try with_reducible rfl
  try simp only [List.getElem_toArray, List.getElem_cons_succ, List.getElem_cons_zero, Act.put, List.setIfInBounds_toArray, List.set_cons_zero, List.set_cons_succ]
  refine wpAnyH_done (by kernel_rfl) ?_ _
  refine NoPanic.normal ?_
  replace x0_0 := cell_below HCv2.out x0_0 (by omega)
  replace x0_1 := cell_below HCv2.out x0_1 (by omega)
  replace x1_0 := cell_below HCv2.out x1_0 (by omega)
  replace x1_1 := cell_below HCv2.out x1_1 (by omega)
  replace x2_0 := cell_below HCv2.out x2_0 (by omega)
  replace x2_1 := cell_below HCv2.out x2_1 (by omega)
  replace f2_0 := fro_below HCv2.out f2_0 (by omega)
  replace f2_1 := fro_below HCv2.out f2_1 (by omega)
  have HB2 := Lib.hid (HB0.out.trans (HCv2.out.mono (by omega)))
  clear hcl g3 g4
  go_wp2_with fail
  refine (spec_copy_net _ ls c n v2 (Hhr.out.below HB2.out) hn Hhm.out).mono ?_
  rintro e' w4 ⟨p4, q4, vs, css, rfl, hol, hb⟩
  have s4 := hb.size
  replace x0_0 := cell_below hb x0_0 (by omega)
  replace x0_1 := cell_below hb x0_1 (by omega)
  replace x1_0 := cell_below hb x1_0 (by omega)
  replace x1_1 := cell_below hb x1_1 (by omega)
  replace x2_0 := cell_below hb x2_0 (by omega)
  replace x2_1 := cell_below hb x2_1 (by omega)
  replace f2_0 := fro_below hb f2_0 (by omega)
  replace f2_1 := fro_below hb f2_1 (by omega)
  have HB4 := Lib.hid (HB2.out.trans (hb.mono HB2.out.size))
  have HBQ := Lib.hid hb
  have O5 := Lib.hid hol
  clear hb hol
  obtain ⟨BB, hBB⟩ : ∃ BB : Nat, BB = w4.heap.size := ⟨_, rfl⟩
  have y0 : (w4.alloc (.cells #[.int .i64 n, .slice p4 ls.length q4] 65)).cell? ⟨BB, 0, none⟩ = some (.int .i64 n) := cell_new _ _ _ hBB rfl
  have y1 : (w4.alloc (.cells #[.int .i64 n, .slice p4 ls.length q4] 65)).cell? ⟨BB, 1, none⟩ = some (.slice p4 ls.length q4) := cell_new _ _ _ hBB rfl
  have yf : (w4.alloc (.cells #[.int .i64 n, .slice p4 ls.length q4] 65)).frozen? ⟨BB, 1, none⟩ = false := fro_new _ _ _ hBB
  have hb := below_alloc w4 (.cells #[.int .i64 n, .slice p4 ls.length q4] 65)
  have hlt5 : BB < (w4.alloc (.cells #[.int .i64 n, .slice p4 ls.length q4] 65)).heap.size := by rw [hBB]; exact size_alloc' _ _
  replace x0_0 := cell_below hb x0_0 (by omega)
  replace x0_1 := cell_below hb x0_1 (by omega)
  replace x1_0 := cell_below hb x1_0 (by omega)
  replace x1_1 := cell_below hb x1_1 (by omega)
  replace x2_0 := cell_below hb x2_0 (by omega)
  replace x2_1 := cell_below hb x2_1 (by omega)
  replace f2_0 := fro_below hb f2_0 (by omega)
  replace f2_1 := fro_below hb f2_1 (by omega)
  have HBn5 := Lib.hid (HB4.out.trans (hb.mono HB4.out.size))
  have HR4 := Lib.hid (ownsRow_block (w' := w4.alloc (.cells #[.int .i64 n, .slice p4 ls.length q4] 65)) O5.out.1 (fun g hg => hb.block g (O5.out.1.lt g hg).2))
  have HLA := Lib.hid (show LaysOf v2.heap.size BB (w4.alloc (.cells #[.int .i64 n, .slice p4 ls.length q4] 65)) vs css ls by rw [hBB]; exact O5.out.2.2.below hb)
  have HV5 := Lib.hid (show ∀ g, (Value.slice p4 ls.length q4).ownBlock = some g → v2.heap.size ≤ g ∧ g < BB from fun g e => ⟨(O5.out.1.lt g e).1, by rw [hBB]; exact (O5.out.1.lt g e).2⟩)
  have HV4 := Lib.hid HR4.out.lt
  have hB2 : v2.heap.size ≤ BB := by omega
  clear O5
  go_wp2_with fail
  rw [← hBB]
  generalize hw5 : w4.alloc (.cells #[.int .i64 n, .slice p4 ls.length q4] 65) = w5 at *
  clear hw5 hb hBB
  have HCB := Lib.hid (fun (wa : World) (hb : Below w5.heap.size w5 wa) => spec_copy_net a' ms c' n' wa ((Hhq.out.below HBn5.out).below hb) hk Hhp.out)
  have HBR5 := Lib.hid ((Below.refl w5.heap.size w5).mono (by omega : v2.heap.size ≤ w5.heap.size))
  refine wp_region_noPanic ?_
  refine wp_region_held_drew (S := fun w' => w'.cell? ⟨w.heap.size + 1, 0, none⟩ = some (.int .i64 n') ∧ w'.cell? ⟨w.heap.size + 1, 1, none⟩ = some (.slice a' ms.length c')) (by kernel_rfl) ?_ (fun hHeld => ?_)
  · exact ⟨x1_0, x1_1⟩
  have hb : Below w5.heap.size w5 w5.drew := (Below.refl _ _).drew
  generalize hwn : w5.drew = v61 at *
  clear hwn
  have HX0 := Lib.hid hb
  have sz61 : w5.heap.size ≤ v61.heap.size := hb.size
  replace yf := fro_keep hb y1 yf
  replace f2_0 := fro_keep hb x2_0 f2_0
  replace f2_1 := fro_keep hb x2_1 f2_1
  replace x1_0 := cell_keep hb x1_0
  replace x1_1 := cell_keep hb x1_1
  replace x2_0 := cell_keep hb x2_0
  replace x2_1 := cell_keep hb x2_1
  replace y0 := cell_keep hb y0
  replace y1 := cell_keep hb y1
  have HBh61 := Lib.hid (HBR5.out.trans (hb.mono (by have := HBR5.out.size; omega)))
  clear hb
  refine wpAnyH_take (i := 0) (v := ?_) rfl (by kernel_rfl) (by kernel_rfl) (by kernel_rfl) (fun _ _ _ h => h) (Or.inl ⟨by rfl, ?_⟩) (by assumption) ?_
  rotate_left
  · intro w9 hSw; (try dsimp only at hSw); go_simp; try with_reducible rfl
  try simp only [List.getElem_toArray, List.getElem_cons_succ, List.getElem_cons_zero, Act.put, List.setIfInBounds_toArray, List.set_cons_zero, List.set_cons_succ]
  refine wpAnyH_take (i := 2) (v := ?_) rfl (by kernel_rfl) (by kernel_rfl) (by kernel_rfl) (fun _ _ _ h => h) (Or.inl ⟨by rfl, ?_⟩) (by assumption) ?_
  rotate_left
  · intro w9 hSw; (try dsimp only at hSw); go_simp; try with_reducible rfl
  try simp only [List.getElem_toArray, List.getElem_cons_succ, List.getElem_cons_zero, Act.put, List.setIfInBounds_toArray, List.set_cons_zero, List.set_cons_succ]
  refine wpAnyH_ready (rs := [1, 3]) (by kernel_rfl) (by simp) ?_
  refine AllReadyH.cons rfl (fun K hK => ?_) ?_
  · skip
    clear hHeld
    go_simp
    refine hK.out _ _ ?_ (fun hHeld => ?_)
    · exact ⟨x1_0, x1_1⟩
    clear hK K
    try simp only [List.getElem_toArray, List.getElem_cons_succ, List.getElem_cons_zero, Act.put, List.setIfInBounds_toArray, List.set_cons_zero, List.set_cons_succ]
    refine wpAnyH_ready (rs := [3]) (by kernel_rfl) (by simp) ?_
    refine AllReadyH.cons rfl (fun K hK => ?_) AllReadyH.nil
    clear hHeld
    go_simp
    refine (HCB.out _ HX0.out).mono ?_
    rintro e' v62 ⟨p6, q6, vs6, css6, rfl, hol6, hb⟩
    obtain ⟨g6, cap6, hf6, _, _⟩ := hol6.1.form (by have := HMS.out; omega)
    obtain ⟨rfl, rfl⟩ : p6 = some ⟨g6, 0, none⟩ ∧ q6 = cap6 := by simp at hf6; exact hf6
    clear hf6
    have hfd : ∀ w : World, Sem.run Try.prog (Instr.field 65 (.agg #[.int .i64 n', .slice (some ⟨g6, 0, none⟩) ms.length q6]) 1) w = .ok (.slice (some ⟨g6, 0, none⟩) ms.length q6) w := fun _ => by kernel_rfl
    have HX3 := Lib.hid (HX0.out.trans (hb.mono HX0.out.size))
    have HLB := Lib.hid (hol6.2.2.mono (lo' := BB + 1) (by have := HX0.out.size; omega) (Nat.le_refl _))
    have HR6 := Lib.hid hol6.1
    clear hol6
    have sz62 : v61.heap.size ≤ v62.heap.size := hb.size
    replace yf := fro_keep hb y1 yf
    replace f2_0 := fro_keep hb x2_0 f2_0
    replace f2_1 := fro_keep hb x2_1 f2_1
    replace x1_0 := cell_keep hb x1_0
    replace x1_1 := cell_keep hb x1_1
    replace x2_0 := cell_keep hb x2_0
    replace x2_1 := cell_keep hb x2_1
    replace y0 := cell_keep hb y0
    replace y1 := cell_keep hb y1
    have HBh62 := Lib.hid (HBh61.out.trans (hb.mono (by have := HBh61.out.size; omega)))
    clear hb
    refine hK.out _ _ ?_ (fun hHeld => ?_)
    · exact ⟨x1_0, x1_1⟩
    clear hK K
    try simp only [List.getElem_toArray, List.getElem_cons_succ, List.getElem_cons_zero, Act.put, List.setIfInBounds_toArray, List.set_cons_zero, List.set_cons_succ]
    refine wpAnyH_take (i := 4) (v := ?_) rfl (by kernel_rfl) (by kernel_rfl) (by kernel_rfl) (fun _ _ _ h => h) (Or.inl ⟨by rfl, ?_⟩) (by assumption) ?_
    rotate_left
    · intro w9 hSw; (try dsimp only at hSw); go_simp; try with_reducible rfl
    try simp only [List.getElem_toArray, List.getElem_cons_succ, List.getElem_cons_zero, Act.put, List.setIfInBounds_toArray, List.set_cons_zero, List.set_cons_succ]
    refine wpAnyH_ready (rs := [5]) (by kernel_rfl) (by simp) ?_
    refine AllReadyH.cons rfl (fun K hK => ?_) AllReadyH.nil
    clear hHeld
    have hx3 := HX3.out
    have how := ownsRow_block (w' := v62) HR4.out (fun g hg => hx3.block g (HV4.out g hg).2)
    have hla := HLA.out.below hx3
    have hrow : ∀ g, (Value.slice p4 ls.length q4).ownBlock = some g → v2.heap.size ≤ g ∧ g < BB := fun g e => HV5.out g e
    refine step_append_any rfl _ _ 63 rfl v2.heap.size 100 j0 (.slice none 0 0) 1 24 Try.underlying63 hj0 hjz0 hjz1 hjz2 rfl (by decide) (.slice p4 ls.length q4) ls.length vs (by rfl) how ⟨g6, 0, none⟩ ms.length q6 vs6 (by rfl) (by have := HLB.out.1; omega) (fun j u hj => HR6.out.cells (g := g6) rfl j u hj) (fun u hu => lays_one HLB.out u hu) (by have := HMS.out; unfold maxLen; omega) (by have := HMS.out; omega) (by have := HBh62.out.size; omega) ?_
    intro v9 v63 hown hg hat
    obtain ⟨g9, c9, rfl, _, _⟩ := hown.form (by have := HMS.out; omega)
    have hlA2 := lays_grow hla how hg
    have hlB2 := lays_grow HLB.out how hg
    have HLA2 := Lib.hid hlA2
    have HLB2 := Lib.hid hlB2
    have HRW := Lib.hid hown
    have HAT := Lib.hid (show ∀ g, (Value.slice (some ⟨g9, 0, none⟩) (ls.length + ms.length) c9).ownBlock = some g → g ≠ BB from fun g e => by (rcases hat with h | h); (rw [h] at e; have := hrow g e; omega); (rw [h] at e; (have e2 : v62.heap.size = g := by simpa using e); omega))
    clear how hla hx3 hlA2 hlB2
    have sz63 : v62.heap.size ≤ v63.heap.size := hg.size
    replace yf := fro_grow hg y1 yf (fun g e => by have := hrow g e; omega)
    replace f2_0 := fro_grow hg x2_0 f2_0 (fun g e => by have := hrow g e; omega)
    replace f2_1 := fro_grow hg x2_1 f2_1 (fun g e => by have := hrow g e; omega)
    replace x1_0 := cell_grow hg x1_0 (fun g e => by have := hrow g e; omega)
    replace x1_1 := cell_grow hg x1_1 (fun g e => by have := hrow g e; omega)
    replace x2_0 := cell_grow hg x2_0 (fun g e => by have := hrow g e; omega)
    replace x2_1 := cell_grow hg x2_1 (fun g e => by have := hrow g e; omega)
    replace y0 := cell_grow hg y0 (fun g e => by have := hrow g e; omega)
    replace y1 := cell_grow hg y1 (fun g e => by have := hrow g e; omega)
    have HBh63 := Lib.hid (HBh62.out.grown hg (by have := HBh62.out.size; omega) (fun g e => by have := hrow g e; omega))
    clear hown hg hat hrow
    refine hK.out _ _ ?_ (fun hHeld => ?_)
    · exact ⟨x1_0, x1_1⟩
    clear hK K
    try simp only [List.getElem_toArray, List.getElem_cons_succ, List.getElem_cons_zero, Act.put, List.setIfInBounds_toArray, List.set_cons_zero, List.set_cons_succ]
    refine wpAnyH_take (i := 6) (v := ?_) rfl (by kernel_rfl) (by kernel_rfl) (by kernel_rfl) (fun _ _ _ h => h) (Or.inl ⟨by rfl, ?_⟩) (by assumption) ?_
    rotate_left
    · intro w9 hSw; (try dsimp only at hSw); go_simp; try with_reducible rfl
    try simp only [List.getElem_toArray, List.getElem_cons_succ, List.getElem_cons_zero, Act.put, List.setIfInBounds_toArray, List.set_cons_zero, List.set_cons_succ]
    refine wpAnyH_ready (rs := [7]) (by kernel_rfl) (by simp) ?_
    refine AllReadyH.cons rfl (fun K hK => ?_) AllReadyH.nil
    clear hHeld
    go_simp
    have z1 := World.cell?_setCell_same v63 ⟨BB, 1, none⟩ (.slice (some ⟨g9, 0, none⟩) (ls.length + ms.length) c9) y1
    have z0 : (v63.setCell ⟨BB, 1, none⟩ (.slice (some ⟨g9, 0, none⟩) (ls.length + ms.length) c9)).cell? ⟨BB, 0, none⟩ = some (.int .i64 n) := (World.cell?_setCell_other _ _ _ _ (by simp)).trans y0
    have HLz := Lib.hid (HLA2.out.keep (w' := (v63.setCell ⟨BB, 1, none⟩ (.slice (some ⟨g9, 0, none⟩) (ls.length + ms.length) c9))) fun g hf => Below.heap_setCell _ _ _ _ (by have := HLA2.out.foot hf; show g ≠ BB; omega))
    have HMz := Lib.hid (HLB2.out.keep (w' := (v63.setCell ⟨BB, 1, none⟩ (.slice (some ⟨g9, 0, none⟩) (ls.length + ms.length) c9))) fun g hf => Below.heap_setCell _ _ _ _ (by have := HLB2.out.foot hf; show g ≠ BB; omega))
    have HRz := Lib.hid (ownsRow_block (w' := (v63.setCell ⟨BB, 1, none⟩ (.slice (some ⟨g9, 0, none⟩) (ls.length + ms.length) c9))) HRW.out (fun g hg => Below.heap_setCell _ _ _ _ (HAT.out g hg)))
    have HBz := Lib.hid (HBh63.out.setCell (p := ⟨BB, 1, none⟩) (by show v2.heap.size ≤ BB; omega) (.slice (some ⟨g9, 0, none⟩) (ls.length + ms.length) c9))
    have hsz7 : (v63.setCell ⟨BB, 1, none⟩ (.slice (some ⟨g9, 0, none⟩) (ls.length + ms.length) c9)).heap.size = v63.heap.size := size_set _ _ _
    have nx1_0 := cell_set2 (o' := 1) x1_0 (by omega : w.heap.size + 1 ≠ BB) (.slice (some ⟨g9, 0, none⟩) (ls.length + ms.length) c9)
    have nx1_1 := cell_set2 (o' := 1) x1_1 (by omega : w.heap.size + 1 ≠ BB) (.slice (some ⟨g9, 0, none⟩) (ls.length + ms.length) c9)
    have nx2_0 := cell_set2 (o' := 1) x2_0 (by omega : w.heap.size + 2 ≠ BB) (.slice (some ⟨g9, 0, none⟩) (ls.length + ms.length) c9)
    have nx2_1 := cell_set2 (o' := 1) x2_1 (by omega : w.heap.size + 2 ≠ BB) (.slice (some ⟨g9, 0, none⟩) (ls.length + ms.length) c9)
    have nf2_0 : (v63.setCell ⟨BB, 1, none⟩ (.slice (some ⟨g9, 0, none⟩) (ls.length + ms.length) c9)).frozen? ⟨w.heap.size + 2, 0, none⟩ = false := by rw [World.frozen?_setCell]; exact f2_0
    have nf2_1 : (v63.setCell ⟨BB, 1, none⟩ (.slice (some ⟨g9, 0, none⟩) (ls.length + ms.length) c9)).frozen? ⟨w.heap.size + 2, 1, none⟩ = false := by rw [World.frozen?_setCell]; exact f2_1
    clear x1_0 x1_1 x2_0 x2_1 f2_0 f2_1 y0 y1 yf
    generalize hwn : (v63.setCell ⟨BB, 1, none⟩ (.slice (some ⟨g9, 0, none⟩) (ls.length + ms.length) c9)) = v64 at *
    clear hwn
    have x1_0 := nx1_0
    have x1_1 := nx1_1
    have x2_0 := nx2_0
    have x2_1 := nx2_1
    have f2_0 := nf2_0
    have f2_1 := nf2_1
    clear nx1_0 nx1_1 nx2_0 nx2_1 nf2_0 nf2_1
    refine hK.out _ _ ?_ (fun hHeld => ?_)
    · exact ⟨x1_0, x1_1⟩
    clear hK K
    try simp only [List.getElem_toArray, List.getElem_cons_succ, List.getElem_cons_zero, Act.put, List.setIfInBounds_toArray, List.set_cons_zero, List.set_cons_succ]
    refine wpAnyH_done (by kernel_rfl) ?_ _
    refine NoPanic.normal ?_
    clear hHeld
    have HBR := Lib.hid (HBn5.out.trans (HBz.out.mono (by omega)))
    have HOF := Lib.hid (own_join HRz.out HLz.out HMz.out (by omega) (by omega) (by omega))
    go_wp2_with fail
    rw [List.length_append] at HOF
    refine bodyPost_ret (v := .tuple #[.agg #[.int .i64 n, .slice (some ⟨g9, 0, none⟩) (ls.length + ms.length) c9], .bool true]) (by simp [results, Try.results49, go_sem, x2_0, x2_1, f2_0, f2_1]) rfl ⟨_, rfl, ?_, ?_⟩
    · simp only [size_set]; exact ((HOF.out.set (by show w.heap.size + 2 < _; omega) _).set (by show w.heap.size + 2 < _; omega) _).mono (by omega) (Nat.le_refl _)
    · exact (HBR.out.setCell (by simp; omega) _).setCell (by simp; omega) _
  refine AllReadyH.cons rfl (fun K hK => ?_) AllReadyH.nil
  clear hHeld
  go_simp
  refine (HCB.out _ HX0.out).mono ?_
  rintro e' v62 ⟨p6, q6, vs6, css6, rfl, hol6, hb⟩
  obtain ⟨g6, cap6, hf6, _, _⟩ := hol6.1.form (by have := HMS.out; omega)
  obtain ⟨rfl, rfl⟩ : p6 = some ⟨g6, 0, none⟩ ∧ q6 = cap6 := by simp at hf6; exact hf6
  clear hf6
  have hfd : ∀ w : World, Sem.run Try.prog (Instr.field 65 (.agg #[.int .i64 n', .slice (some ⟨g6, 0, none⟩) ms.length q6]) 1) w = .ok (.slice (some ⟨g6, 0, none⟩) ms.length q6) w := fun _ => by kernel_rfl
  have HX3 := Lib.hid (HX0.out.trans (hb.mono HX0.out.size))
  have HLB := Lib.hid (hol6.2.2.mono (lo' := BB + 1) (by have := HX0.out.size; omega) (Nat.le_refl _))
  have HR6 := Lib.hid hol6.1
  clear hol6
  have sz62 : v61.heap.size ≤ v62.heap.size := hb.size
  replace yf := fro_keep hb y1 yf
  replace f2_0 := fro_keep hb x2_0 f2_0
  replace f2_1 := fro_keep hb x2_1 f2_1
  replace x1_0 := cell_keep hb x1_0
  replace x1_1 := cell_keep hb x1_1
  replace x2_0 := cell_keep hb x2_0
  replace x2_1 := cell_keep hb x2_1
  replace y0 := cell_keep hb y0
  replace y1 := cell_keep hb y1
  have HBh62 := Lib.hid (HBh61.out.trans (hb.mono (by have := HBh61.out.size; omega)))
  clear hb
  refine hK.out _ _ ?_ (fun hHeld => ?_)
  · exact ⟨x1_0, x1_1⟩
  clear hK K
  try simp only [List.getElem_toArray, List.getElem_cons_succ, List.getElem_cons_zero, Act.put, List.setIfInBounds_toArray, List.set_cons_zero, List.set_cons_succ]
  refine wpAnyH_take (i := 4) (v := ?_) rfl (by kernel_rfl) (by kernel_rfl) (by kernel_rfl) (fun _ _ _ h => h) (Or.inl ⟨by rfl, ?_⟩) (by assumption) ?_
  rotate_left
  · intro w9 hSw; (try dsimp only at hSw); go_simp; try with_reducible rfl
  try simp only [List.getElem_toArray, List.getElem_cons_succ, List.getElem_cons_zero, Act.put, List.setIfInBounds_toArray, List.set_cons_zero, List.set_cons_succ]
  refine wpAnyH_ready (rs := [1]) (by kernel_rfl) (by simp) ?_
  refine AllReadyH.cons rfl (fun K hK => ?_) AllReadyH.nil
  clear hHeld
  go_simp
  refine hK.out _ _ ?_ (fun hHeld => ?_)
  · exact ⟨x1_0, x1_1⟩
  clear hK K
  try simp only [List.getElem_toArray, List.getElem_cons_succ, List.getElem_cons_zero, Act.put, List.setIfInBounds_toArray, List.set_cons_zero, List.set_cons_succ]
  refine wpAnyH_ready (rs := [5]) (by kernel_rfl) (by simp) ?_
  refine AllReadyH.cons rfl (fun K hK => ?_) AllReadyH.nil
  clear hHeld
  have hx3 := HX3.out
  have how := ownsRow_block (w' := v62) HR4.out (fun g hg => hx3.block g (HV4.out g hg).2)
  have hla := HLA.out.below hx3
  have hrow : ∀ g, (Value.slice p4 ls.length q4).ownBlock = some g → v2.heap.size ≤ g ∧ g < BB := fun g e => HV5.out g e
  refine step_append_any rfl _ _ 63 rfl v2.heap.size 100 j0 (.slice none 0 0) 1 24 Try.underlying63 hj0 hjz0 hjz1 hjz2 rfl (by decide) (.slice p4 ls.length q4) ls.length vs (by rfl) how ⟨g6, 0, none⟩ ms.length q6 vs6 (by rfl) (by have := HLB.out.1; omega) (fun j u hj => HR6.out.cells (g := g6) rfl j u hj) (fun u hu => lays_one HLB.out u hu) (by have := HMS.out; unfold maxLen; omega) (by have := HMS.out; omega) (by have := HBh62.out.size; omega) ?_
  intro v9 v63 hown hg hat
  obtain ⟨g9, c9, rfl, _, _⟩ := hown.form (by have := HMS.out; omega)
  have hlA2 := lays_grow hla how hg
  have hlB2 := lays_grow HLB.out how hg
  have HLA2 := Lib.hid hlA2
  have HLB2 := Lib.hid hlB2
  have HRW := Lib.hid hown
  have HAT := Lib.hid (show ∀ g, (Value.slice (some ⟨g9, 0, none⟩) (ls.length + ms.length) c9).ownBlock = some g → g ≠ BB from fun g e => by (rcases hat with h | h); (rw [h] at e; have := hrow g e; omega); (rw [h] at e; (have e2 : v62.heap.size = g := by simpa using e); omega))
  clear how hla hx3 hlA2 hlB2
  have sz63 : v62.heap.size ≤ v63.heap.size := hg.size
  replace yf := fro_grow hg y1 yf (fun g e => by have := hrow g e; omega)
  replace f2_0 := fro_grow hg x2_0 f2_0 (fun g e => by have := hrow g e; omega)
  replace f2_1 := fro_grow hg x2_1 f2_1 (fun g e => by have := hrow g e; omega)
  replace x1_0 := cell_grow hg x1_0 (fun g e => by have := hrow g e; omega)
  replace x1_1 := cell_grow hg x1_1 (fun g e => by have := hrow g e; omega)
  replace x2_0 := cell_grow hg x2_0 (fun g e => by have := hrow g e; omega)
  replace x2_1 := cell_grow hg x2_1 (fun g e => by have := hrow g e; omega)
  replace y0 := cell_grow hg y0 (fun g e => by have := hrow g e; omega)
  replace y1 := cell_grow hg y1 (fun g e => by have := hrow g e; omega)
  have HBh63 := Lib.hid (HBh62.out.grown hg (by have := HBh62.out.size; omega) (fun g e => by have := hrow g e; omega))
  clear hown hg hat hrow
  refine hK.out _ _ ?_ (fun hHeld => ?_)
  · exact ⟨x1_0, x1_1⟩
  clear hK K
  try simp only [List.getElem_toArray, List.getElem_cons_succ, List.getElem_cons_zero, Act.put, List.setIfInBounds_toArray, List.set_cons_zero, List.set_cons_succ]
  refine wpAnyH_take (i := 6) (v := ?_) rfl (by kernel_rfl) (by kernel_rfl) (by kernel_rfl) (fun _ _ _ h => h) (Or.inl ⟨by rfl, ?_⟩) (by assumption) ?_
  rotate_left
  · intro w9 hSw; (try dsimp only at hSw); go_simp; try with_reducible rfl
  try simp only [List.getElem_toArray, List.getElem_cons_succ, List.getElem_cons_zero, Act.put, List.setIfInBounds_toArray, List.set_cons_zero, List.set_cons_succ]
  refine wpAnyH_ready (rs := [7]) (by kernel_rfl) (by simp) ?_
  refine AllReadyH.cons rfl (fun K hK => ?_) AllReadyH.nil
  clear hHeld
  go_simp
  have z1 := World.cell?_setCell_same v63 ⟨BB, 1, none⟩ (.slice (some ⟨g9, 0, none⟩) (ls.length + ms.length) c9) y1
  have z0 : (v63.setCell ⟨BB, 1, none⟩ (.slice (some ⟨g9, 0, none⟩) (ls.length + ms.length) c9)).cell? ⟨BB, 0, none⟩ = some (.int .i64 n) := (World.cell?_setCell_other _ _ _ _ (by simp)).trans y0
  have HLz := Lib.hid (HLA2.out.keep (w' := (v63.setCell ⟨BB, 1, none⟩ (.slice (some ⟨g9, 0, none⟩) (ls.length + ms.length) c9))) fun g hf => Below.heap_setCell _ _ _ _ (by have := HLA2.out.foot hf; show g ≠ BB; omega))
  have HMz := Lib.hid (HLB2.out.keep (w' := (v63.setCell ⟨BB, 1, none⟩ (.slice (some ⟨g9, 0, none⟩) (ls.length + ms.length) c9))) fun g hf => Below.heap_setCell _ _ _ _ (by have := HLB2.out.foot hf; show g ≠ BB; omega))
  have HRz := Lib.hid (ownsRow_block (w' := (v63.setCell ⟨BB, 1, none⟩ (.slice (some ⟨g9, 0, none⟩) (ls.length + ms.length) c9))) HRW.out (fun g hg => Below.heap_setCell _ _ _ _ (HAT.out g hg)))
  have HBz := Lib.hid (HBh63.out.setCell (p := ⟨BB, 1, none⟩) (by show v2.heap.size ≤ BB; omega) (.slice (some ⟨g9, 0, none⟩) (ls.length + ms.length) c9))
  have hsz7 : (v63.setCell ⟨BB, 1, none⟩ (.slice (some ⟨g9, 0, none⟩) (ls.length + ms.length) c9)).heap.size = v63.heap.size := size_set _ _ _
  have nx1_0 := cell_set2 (o' := 1) x1_0 (by omega : w.heap.size + 1 ≠ BB) (.slice (some ⟨g9, 0, none⟩) (ls.length + ms.length) c9)
  have nx1_1 := cell_set2 (o' := 1) x1_1 (by omega : w.heap.size + 1 ≠ BB) (.slice (some ⟨g9, 0, none⟩) (ls.length + ms.length) c9)
  have nx2_0 := cell_set2 (o' := 1) x2_0 (by omega : w.heap.size + 2 ≠ BB) (.slice (some ⟨g9, 0, none⟩) (ls.length + ms.length) c9)
  have nx2_1 := cell_set2 (o' := 1) x2_1 (by omega : w.heap.size + 2 ≠ BB) (.slice (some ⟨g9, 0, none⟩) (ls.length + ms.length) c9)
  have nf2_0 : (v63.setCell ⟨BB, 1, none⟩ (.slice (some ⟨g9, 0, none⟩) (ls.length + ms.length) c9)).frozen? ⟨w.heap.size + 2, 0, none⟩ = false := by rw [World.frozen?_setCell]; exact f2_0
  have nf2_1 : (v63.setCell ⟨BB, 1, none⟩ (.slice (some ⟨g9, 0, none⟩) (ls.length + ms.length) c9)).frozen? ⟨w.heap.size + 2, 1, none⟩ = false := by rw [World.frozen?_setCell]; exact f2_1
  clear x1_0 x1_1 x2_0 x2_1 f2_0 f2_1 y0 y1 yf
  generalize hwn : (v63.setCell ⟨BB, 1, none⟩ (.slice (some ⟨g9, 0, none⟩) (ls.length + ms.length) c9)) = v64 at *
  clear hwn
  have x1_0 := nx1_0
  have x1_1 := nx1_1
  have x2_0 := nx2_0
  have x2_1 := nx2_1
  have f2_0 := nf2_0
  have f2_1 := nf2_1
  clear nx1_0 nx1_1 nx2_0 nx2_1 nf2_0 nf2_1
  refine hK.out _ _ ?_ (fun hHeld => ?_)
  · exact ⟨x1_0, x1_1⟩
  clear hK K
  try simp only [List.getElem_toArray, List.getElem_cons_succ, List.getElem_cons_zero, Act.put, List.setIfInBounds_toArray, List.set_cons_zero, List.set_cons_succ]
  refine wpAnyH_done (by kernel_rfl) ?_ _
  refine NoPanic.normal ?_
  clear hHeld
  have HBR := Lib.hid (HBn5.out.trans (HBz.out.mono (by omega)))
  have HOF := Lib.hid (own_join HRz.out HLz.out HMz.out (by omega) (by omega) (by omega))
  go_wp2_with fail
  rw [List.length_append] at HOF
  refine bodyPost_ret (v := .tuple #[.agg #[.int .i64 n, .slice (some ⟨g9, 0, none⟩) (ls.length + ms.length) c9], .bool true]) (by simp [results, Try.results49, go_sem, x2_0, x2_1, f2_0, f2_1]) rfl ⟨_, rfl, ?_, ?_⟩
  · simp only [size_set]; exact ((HOF.out.set (by show w.heap.size + 2 < _; omega) _).set (by show w.heap.size + 2 < _; omega) _).mono (by omega) (Nat.le_refl _)
  · exact (HBR.out.setCell (by simp; omega) _).setCell (by simp; omega) _
end Go.Proofs.Ytkbcofgigfnfaaa.afts
