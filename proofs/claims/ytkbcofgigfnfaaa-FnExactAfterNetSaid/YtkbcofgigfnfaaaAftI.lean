/- The program's net behind another one. -/
import Derived.Test.YtkbcofgigfnfaaaAftP
import Derived.Test.YtkbcofgigfnfaaaNetB
import Derived.Test.YtkbcofgigfnfaaaNegI
import Derived.Test.YtkbcofgigfnfaaaConcN
import Derived.Test.YtkbcofgigfnfaaaLastI
import Derived.Deep.RegionHeld3
import Derived.Deep.DrawnRows
namespace Go.Proofs.Ytkbcofgigfnfaaa.afti
open Go.RowKit own pp nums planes netp netb ownnet aftp lasti concn
set_option linter.unusedVariables false
set_option linter.unusedSimpArgs false

theorem cell_keep {W W' : World} (h : Below W.heap.size W W') {b o : Nat} {x : Value} (hx : W.cell? ⟨b, o, none⟩ = some x) : W'.cell? ⟨b, o, none⟩ = some x :=
  cell_below h hx (block_lt_of_cell (a := ⟨b, o, none⟩) hx)
theorem fro_keep {W W' : World} (h : Below W.heap.size W W') {b o o' : Nat} {x : Value} (hx : W.cell? ⟨b, o', none⟩ = some x) (hf : W.frozen? ⟨b, o, none⟩ = false) : W'.frozen? ⟨b, o, none⟩ = false :=
  fro_below h hf (block_lt_of_cell (a := ⟨b, o', none⟩) hx)
theorem cell_grow {W W' : World} {row : Option Nat} (h : W.grownBy W' row) {b o : Nat} {x : Value} (hx : W.cell? ⟨b, o, none⟩ = some x) (hne : ∀ g, row = some g → b ≠ g) : W'.cell? ⟨b, o, none⟩ = some x :=
  (World.cell?_of_block (h.block b (block_lt_of_cell (a := ⟨b, o, none⟩) hx) (fun e => hne b e.symm rfl))).trans hx
theorem fro_grow {W W' : World} {row : Option Nat} (h : W.grownBy W' row) {b o o' : Nat} {x : Value} (hx : W.cell? ⟨b, o', none⟩ = some x) (hf : W.frozen? ⟨b, o, none⟩ = false) (hne : ∀ g, row = some g → b ≠ g) : W'.frozen? ⟨b, o, none⟩ = false :=
  (World.frozen?_of_block (a := ⟨b, o, none⟩) (h.block b (block_lt_of_cell (a := ⟨b, o', none⟩) hx) (fun e => hne b e.symm rfl))).trans hf
theorem own_grow {W W' : World} {row : Option Nat} (h : W.grownBy W' row) {lo hi : Nat} {v : Value} {zs : List Int} (ho : OwnI lo hi W v zs) (hne : ∀ g, row = some g → g < lo ∨ hi ≤ g) : OwnI lo hi W' v zs :=
  ho.block fun g hg => h.block g (ho.lt hg).2.2 (fun e => by have := hne g e.symm; have := ho.lt hg; omega)
theorem cell_set2 {W : World} {b o b' o' : Nat} {x : Value} (hx : W.cell? ⟨b, o, none⟩ = some x) (hne : b ≠ b') (u : Value) : (W.setCell ⟨b', o', none⟩ u).cell? ⟨b, o, none⟩ = some x :=
  (World.cell?_of_block (Below.heap_setCell _ _ _ _ (by show b ≠ b'; exact hne))).trans hx
theorem grown_set (W : World) (b o : Nat) (u : Value) : W.grownBy (W.setCell ⟨b, o, none⟩ u) (some b) :=
  ⟨rfl, rfl, rfl, by rw [size_set]; exact Nat.le_refl _, fun k hk hne => Below.heap_setCell _ _ _ _ (fun e => hne (by rw [e]))⟩
theorem grown_trans {W W1 W2 : World} {row : Option Nat} (h : W.grownBy W1 row) (k : W1.grownBy W2 row) : W.grownBy W2 row :=
  ⟨k.os.trans h.os, k.tape.trans h.tape, k.output.trans h.output, Nat.le_trans h.size k.size, fun i hi hn => (k.block i (Nat.lt_of_lt_of_le hi h.size) hn).trans (h.block i hi hn)⟩
set_option maxRecDepth 100000 in
set_option maxHeartbeats 1600000 in
theorem chk_yes (a : Option Addr) (ls : List (List (List Int × Int))) (c : Nat) (n : Int) (w : World) (hr : ReadsL w a ls) (hn : ls.length ≤ 1048576) (hm : ∀ x ∈ ls, x.length ≤ 1048576 ∧ ∀ y ∈ x, y.1.length ≤ 1048576) (h : netB n ls = true) :
    Calls Try.prog 110 #[.agg #[.int .i64 n, .slice a ls.length c]] w (fun e w' => e = .returned (.tuple #[.agg #[.int .i64 n, .slice a ls.length c], .bool true]) ∧ Below w.heap.size w w') := by
  have Hhr := Lib.hid hr
  have Hhm := Lib.hid hm
  clear hr hm
  have HK := Lib.hid h
  clear h
  go_enter Try.func110, Try.ntmps110
  obtain ⟨wb1, hw1⟩ : ∃ wb1 : World, wb1 = w.alloc (.cells #[.int .i64 n, .slice a ls.length c] 65) := ⟨_, rfl⟩
  obtain ⟨wb2, hw2⟩ : ∃ wb2 : World, wb2 = wb1.alloc (.cells #[.int .i64 0, .slice none 0 0] 65) := ⟨_, rfl⟩
  have z1 : wb1.heap.size = w.heap.size + 1 := by rw [hw1]; simp
  have z2 : wb2.heap.size = w.heap.size + 2 := by rw [hw2]; simp; omega
  have x0_0 := (by rw [hw2]; exact cell_old _ (by rw [hw1]; exact cell_new _ _ _ rfl rfl : wb1.cell? ⟨w.heap.size, 0, none⟩ = some (.int .i64 n)) : wb2.cell? ⟨w.heap.size, 0, none⟩ = some (.int .i64 n))
  have x0_1 := (by rw [hw2]; exact cell_old _ (by rw [hw1]; exact cell_new _ _ _ rfl rfl : wb1.cell? ⟨w.heap.size, 1, none⟩ = some (.slice a ls.length c)) : wb2.cell? ⟨w.heap.size, 1, none⟩ = some (.slice a ls.length c))
  have x1_0 := (by rw [hw2]; exact cell_new _ _ _ z1.symm rfl : wb2.cell? ⟨w.heap.size + 1, 0, none⟩ = some (.int .i64 0))
  have x1_1 := (by rw [hw2]; exact cell_new _ _ _ z1.symm rfl : wb2.cell? ⟨w.heap.size + 1, 1, none⟩ = some (.slice none 0 0))
  have HB0 := Lib.hid (show Below w.heap.size w wb2 by rw [hw2]; exact (show Below w.heap.size w wb1 by rw [hw1]; exact (Below.refl w.heap.size w).alloc (Nat.le_refl _) _).alloc (by omega) _)
  have s2 : w.heap.size + 2 ≤ wb2.heap.size := by omega
  have f1_0 := (by rw [hw2]; exact fro_new _ _ _ z1.symm : wb2.frozen? ⟨w.heap.size + 1, 0, none⟩ = false)
  have f1_1 := (by rw [hw2]; exact fro_new _ _ _ z1.symm : wb2.frozen? ⟨w.heap.size + 1, 1, none⟩ = false)
  have HZ2 := Lib.hid z2
  clear z1 z2
  go_wp2_with fail
  rw [← hw1, ← hw2]
  clear hw1 hw2
  refine (impl_net a ls c n wb2 (Hhr.out.below HB0.out) hn Hhm.out true HK).mono ?_
  rintro e' w2 ⟨rfl, hb⟩
  replace x0_0 := cell_below hb x0_0 (by omega)
  replace x0_1 := cell_below hb x0_1 (by omega)
  replace x1_0 := cell_below hb x1_0 (by omega)
  replace x1_1 := cell_below hb x1_1 (by omega)
  replace f1_0 := fro_below hb f1_0 (by omega)
  replace f1_1 := fro_below hb f1_1 (by omega)
  have HB2 := Lib.hid (HB0.out.trans (hb.mono (by omega)))
  clear hb
  go_wp2_with fail
  refine bodyPost_ret (v := .tuple #[.agg #[.int .i64 n, .slice a ls.length c], .bool true]) (by simp [results, Try.results110, go_sem, x0_0, x0_1, x1_0, x1_1, f1_0, f1_1]) rfl ⟨rfl, ?_⟩
  exact (HB2.out.setCell (by simp) _).setCell (by simp) _
set_option maxRecDepth 100000 in
set_option maxHeartbeats 1600000 in
theorem chk_no (a : Option Addr) (ls : List (List (List Int × Int))) (c : Nat) (n : Int) (w : World) (hr : ReadsL w a ls) (hn : ls.length ≤ 1048576) (hm : ∀ x ∈ ls, x.length ≤ 1048576 ∧ ∀ y ∈ x, y.1.length ≤ 1048576) (h : netB n ls = false) :
    Calls Try.prog 110 #[.agg #[.int .i64 n, .slice a ls.length c]] w (fun e w' => e = .returned (.tuple #[.agg #[.int .i64 0, .slice none 0 0], .bool false]) ∧ Below w.heap.size w w') := by
  have Hhr := Lib.hid hr
  have Hhm := Lib.hid hm
  clear hr hm
  have HK := Lib.hid h
  clear h
  go_enter Try.func110, Try.ntmps110
  obtain ⟨wb1, hw1⟩ : ∃ wb1 : World, wb1 = w.alloc (.cells #[.int .i64 n, .slice a ls.length c] 65) := ⟨_, rfl⟩
  obtain ⟨wb2, hw2⟩ : ∃ wb2 : World, wb2 = wb1.alloc (.cells #[.int .i64 0, .slice none 0 0] 65) := ⟨_, rfl⟩
  have z1 : wb1.heap.size = w.heap.size + 1 := by rw [hw1]; simp
  have z2 : wb2.heap.size = w.heap.size + 2 := by rw [hw2]; simp; omega
  have x0_0 := (by rw [hw2]; exact cell_old _ (by rw [hw1]; exact cell_new _ _ _ rfl rfl : wb1.cell? ⟨w.heap.size, 0, none⟩ = some (.int .i64 n)) : wb2.cell? ⟨w.heap.size, 0, none⟩ = some (.int .i64 n))
  have x0_1 := (by rw [hw2]; exact cell_old _ (by rw [hw1]; exact cell_new _ _ _ rfl rfl : wb1.cell? ⟨w.heap.size, 1, none⟩ = some (.slice a ls.length c)) : wb2.cell? ⟨w.heap.size, 1, none⟩ = some (.slice a ls.length c))
  have x1_0 := (by rw [hw2]; exact cell_new _ _ _ z1.symm rfl : wb2.cell? ⟨w.heap.size + 1, 0, none⟩ = some (.int .i64 0))
  have x1_1 := (by rw [hw2]; exact cell_new _ _ _ z1.symm rfl : wb2.cell? ⟨w.heap.size + 1, 1, none⟩ = some (.slice none 0 0))
  have HB0 := Lib.hid (show Below w.heap.size w wb2 by rw [hw2]; exact (show Below w.heap.size w wb1 by rw [hw1]; exact (Below.refl w.heap.size w).alloc (Nat.le_refl _) _).alloc (by omega) _)
  have s2 : w.heap.size + 2 ≤ wb2.heap.size := by omega
  have f1_0 := (by rw [hw2]; exact fro_new _ _ _ z1.symm : wb2.frozen? ⟨w.heap.size + 1, 0, none⟩ = false)
  have f1_1 := (by rw [hw2]; exact fro_new _ _ _ z1.symm : wb2.frozen? ⟨w.heap.size + 1, 1, none⟩ = false)
  have HZ2 := Lib.hid z2
  clear z1 z2
  go_wp2_with fail
  rw [← hw1, ← hw2]
  clear hw1 hw2
  refine (impl_net a ls c n wb2 (Hhr.out.below HB0.out) hn Hhm.out false HK).mono ?_
  rintro e' w2 ⟨rfl, hb⟩
  replace x0_0 := cell_below hb x0_0 (by omega)
  replace x0_1 := cell_below hb x0_1 (by omega)
  replace x1_0 := cell_below hb x1_0 (by omega)
  replace x1_1 := cell_below hb x1_1 (by omega)
  replace f1_0 := fro_below hb f1_0 (by omega)
  replace f1_1 := fro_below hb f1_1 (by omega)
  have HB2 := Lib.hid (HB0.out.trans (hb.mono (by omega)))
  clear hb
  go_wp2_with fail
  refine bodyPost_ret (v := .tuple #[.agg #[.int .i64 0, .slice none 0 0], .bool false]) (by simp [results, Try.results110, go_sem, x0_0, x0_1, x1_0, x1_1, f1_0, f1_1]) rfl ⟨rfl, ?_⟩
  exact (HB2.out.setCell (by simp) _).setCell (by simp) _
theorem reads_join {lo g q : Nat} {w : World} {vs vs' : List Value} {ls ms : List (List (List Int × Int))} (h : w.ownsRow lo 100 1 (.slice (some ⟨g, 0, none⟩) (vs ++ vs').length q) (vs ++ vs').length (vs ++ vs')) (hl : vs.length = ls.length) (hl' : vs'.length = ms.length) (h1 : ∀ k, k < ls.length → ∃ p c, vs.getD k undef = .slice p (ls.getD k []).length c ∧ (ls.getD k []).length ≤ c ∧ ReadsJ w p (ls.getD k [])) (h2 : ∀ k, k < ms.length → ∃ p c, vs'.getD k undef = .slice p (ms.getD k []).length c ∧ (ms.getD k []).length ≤ c ∧ ReadsJ w p (ms.getD k [])) : ReadsL w (some ⟨g, 0, none⟩) (ls ++ ms) := by
  refine .inr ⟨g, 0, rfl, (h.lt g rfl).2, fun k hk => ?_⟩
  have hk2 : k < (vs ++ vs').length := by rw [List.length_append] at hk ⊢; omega
  have hx := h.cells (g := g) rfl k ((vs ++ vs').getD k undef) (by rw [List.getD_eq_getElem?_getD, List.getElem?_eq_getElem hk2]; simp)
  rw [Go.WideShapes.add_plain] at hx
  rw [List.length_append] at hk
  by_cases e : k < ls.length
  · obtain ⟨p, c, e1, e2, e3⟩ := h1 k e
    rw [getD_left vs vs' undef k (by omega), e1] at hx
    rw [getD_left ls ms [] k e]
    exact ⟨p, c, hx, e2, e3⟩
  · obtain ⟨p, c, e1, e2, e3⟩ := h2 (k - ls.length) (by omega)
    rw [getD_right vs vs' undef k (by omega), hl, e1] at hx
    rw [getD_right ls ms [] k (by omega)]
    exact ⟨p, c, hx, e2, e3⟩
set_option maxRecDepth 100000 in
set_option maxHeartbeats 1600000 in
theorem impl_an_no (a : Option Addr) (ls : List (List (List Int × Int))) (c : Nat) (n : Int) (a' : Option Addr) (ms : List (List (List Int × Int))) (c' : Nat) (n' : Int) (w : World) (hr : ReadsL w a ls) (hq : ReadsL w a' ms) (hn : ls.length ≤ 1048576) (hk : ms.length ≤ 1048576) (hm : ∀ x ∈ ls, x.length ≤ 1048576 ∧ ∀ y ∈ x, y.1.length ≤ 1048576) (hp : ∀ x ∈ ms, x.length ≤ 1048576 ∧ ∀ y ∈ x, y.1.length ≤ 1048576) (h : netB n ls = false ∨ netB n' ms = false ∨ ¬ n' = ((ls.getD (ls.length - 1) []).length : Int)) :
    Calls Try.prog 51 #[.agg #[.int .i64 n, .slice a ls.length c], .agg #[.int .i64 n', .slice a' ms.length c']] w (RetTB [] 0 false w) := by
  have Hhr := Lib.hid hr
  have Hhq := Lib.hid hq
  have Hhm := Lib.hid hm
  have Hhp := Lib.hid hp
  clear hr hq hm hp
  cases h0 : netB n ls
  · have HN0 := Lib.hid h0
    clear h h0
    go_enter Try.func51, Try.ntmps51
    obtain ⟨wb1, hw1⟩ : ∃ wb1 : World, wb1 = w.alloc (.cells #[.int .i64 n, .slice a ls.length c] 65) := ⟨_, rfl⟩
    obtain ⟨wb2, hw2⟩ : ∃ wb2 : World, wb2 = wb1.alloc (.cells #[.int .i64 n', .slice a' ms.length c'] 65) := ⟨_, rfl⟩
    obtain ⟨wb3, hw3⟩ : ∃ wb3 : World, wb3 = wb2.alloc (.cells #[.int .i64 0, .slice none 0 0] 65) := ⟨_, rfl⟩
    have z1 : wb1.heap.size = w.heap.size + 1 := by rw [hw1]; simp
    have z2 : wb2.heap.size = w.heap.size + 2 := by rw [hw2]; simp; omega
    have z3 : wb3.heap.size = w.heap.size + 3 := by rw [hw3]; simp; omega
    have x0_0 := (by rw [hw3]; exact cell_old _ (by rw [hw2]; exact cell_old _ (by rw [hw1]; exact cell_new _ _ _ rfl rfl : wb1.cell? ⟨w.heap.size, 0, none⟩ = some (.int .i64 n)) : wb2.cell? ⟨w.heap.size, 0, none⟩ = some (.int .i64 n)) : wb3.cell? ⟨w.heap.size, 0, none⟩ = some (.int .i64 n))
    have x0_1 := (by rw [hw3]; exact cell_old _ (by rw [hw2]; exact cell_old _ (by rw [hw1]; exact cell_new _ _ _ rfl rfl : wb1.cell? ⟨w.heap.size, 1, none⟩ = some (.slice a ls.length c)) : wb2.cell? ⟨w.heap.size, 1, none⟩ = some (.slice a ls.length c)) : wb3.cell? ⟨w.heap.size, 1, none⟩ = some (.slice a ls.length c))
    have x1_0 := (by rw [hw3]; exact cell_old _ (by rw [hw2]; exact cell_new _ _ _ z1.symm rfl : wb2.cell? ⟨w.heap.size + 1, 0, none⟩ = some (.int .i64 n')) : wb3.cell? ⟨w.heap.size + 1, 0, none⟩ = some (.int .i64 n'))
    have x1_1 := (by rw [hw3]; exact cell_old _ (by rw [hw2]; exact cell_new _ _ _ z1.symm rfl : wb2.cell? ⟨w.heap.size + 1, 1, none⟩ = some (.slice a' ms.length c')) : wb3.cell? ⟨w.heap.size + 1, 1, none⟩ = some (.slice a' ms.length c'))
    have x2_0 := (by rw [hw3]; exact cell_new _ _ _ z2.symm rfl : wb3.cell? ⟨w.heap.size + 2, 0, none⟩ = some (.int .i64 0))
    have x2_1 := (by rw [hw3]; exact cell_new _ _ _ z2.symm rfl : wb3.cell? ⟨w.heap.size + 2, 1, none⟩ = some (.slice none 0 0))
    have HB0 := Lib.hid (show Below w.heap.size w wb3 by rw [hw3]; exact (show Below w.heap.size w wb2 by rw [hw2]; exact (show Below w.heap.size w wb1 by rw [hw1]; exact (Below.refl w.heap.size w).alloc (Nat.le_refl _) _).alloc (by omega) _).alloc (by omega) _)
    have s3 : w.heap.size + 3 ≤ wb3.heap.size := by omega
    have f2_0 := (by rw [hw3]; exact fro_new _ _ _ z2.symm : wb3.frozen? ⟨w.heap.size + 2, 0, none⟩ = false)
    have f2_1 := (by rw [hw3]; exact fro_new _ _ _ z2.symm : wb3.frozen? ⟨w.heap.size + 2, 1, none⟩ = false)
    have HZ3 := Lib.hid z3
    clear z1 z2 z3
    go_wp2_with fail
    rw [← hw1, ← hw2, ← hw3]
    clear hw1 hw2 hw3
    have HG := Lib.hid (show ∀ wa : World, Below wb3.heap.size wb3 wa → Calls Try.prog 108 #[.agg #[.int .i64 n, .slice a ls.length c]] wa (RetB false wa) from fun wa hb => impl_net _ ls c n wa ((Hhr.out.below HB0.out).below hb) hn Hhm.out false HN0)
    refine wp_region_noPanic ?_
    refine wp_region_held_drew (S := fun w' => w'.cell? ⟨w.heap.size, 0, none⟩ = some (.int .i64 n) ∧ w'.cell? ⟨w.heap.size, 1, none⟩ = some (.slice a ls.length c) ∧ w'.cell? ⟨w.heap.size + 1, 0, none⟩ = some (.int .i64 n') ∧ w'.cell? ⟨w.heap.size + 1, 1, none⟩ = some (.slice a' ms.length c')) (by kernel_rfl) ?_ (fun hHeld => ?_)
    · exact ⟨x0_0, x0_1, x1_0, x1_1⟩
    refine wpAnyH_take (i := 0) (v := ?_) rfl (by kernel_rfl) (by kernel_rfl) (by kernel_rfl) (fun _ _ _ h => h) (Or.inl ⟨by rfl, ?_⟩) (by assumption) ?_
    rotate_left
    · intro w9 hSw; (try dsimp only at hSw); go_simp; try with_reducible rfl
    try simp only [List.getElem_toArray, List.getElem_cons_succ, List.getElem_cons_zero, Act.put, List.setIfInBounds_toArray, List.set_cons_zero, List.set_cons_succ]
    refine wpAnyH_ready (rs := [1]) (by kernel_rfl) (by simp) ?_
    refine AllReadyH.cons rfl (fun K hK => ?_) AllReadyH.nil
    clear hHeld
    go_simp
    refine (HG.out _ (Below.refl _ _).drew).mono ?_
    rintro e' v1 ⟨rfl, hb⟩
    have HCv1 := Lib.hid ((Below.refl wb3.heap.size wb3).drew.trans hb)
    have sv1 := HCv1.out.size
    clear hb
    have mv1_0 := cell_below HCv1.out x0_0 (by omega)
    have mv1_1 := cell_below HCv1.out x0_1 (by omega)
    have mv1_2 := cell_below HCv1.out x1_0 (by omega)
    have mv1_3 := cell_below HCv1.out x1_1 (by omega)
    refine hK.out _ _ ?_ (fun hHeld => ?_)
    · exact ⟨mv1_0, mv1_1, mv1_2, mv1_3⟩
    clear hK K
    try simp only [List.getElem_toArray, List.getElem_cons_succ, List.getElem_cons_zero, Act.put, List.setIfInBounds_toArray, List.set_cons_zero, List.set_cons_succ]
    refine wpAnyH_take (i := 2) (v := ?_) rfl (by kernel_rfl) (by kernel_rfl) (by kernel_rfl) (fun _ _ _ h => h) (Or.inl ⟨by rfl, ?_⟩) (by assumption) ?_
    rotate_left
    · intro w9 hSw; (try dsimp only at hSw); go_simp; try with_reducible rfl
    try simp only [List.getElem_toArray, List.getElem_cons_succ, List.getElem_cons_zero, Act.put, List.setIfInBounds_toArray, List.set_cons_zero, List.set_cons_succ]
    refine wpAnyH_take (i := 3) (v := ?_) rfl (by kernel_rfl) (by kernel_rfl) (by kernel_rfl) (fun _ _ _ h => h) (Or.inl ⟨by rfl, ?_⟩) (by assumption) ?_
    rotate_left
    · intro w9 hSw; (try dsimp only at hSw); go_simp; try with_reducible rfl
    try simp only [List.getElem_toArray, List.getElem_cons_succ, List.getElem_cons_zero, Act.put, List.setIfInBounds_toArray, List.set_cons_zero, List.set_cons_succ]
    refine wpAnyH_take (i := 4) (v := undef) rfl (by kernel_rfl) (by kernel_rfl) (by kernel_rfl) (fun _ _ _ h => h) (Or.inr ⟨by rfl, rfl⟩) (by assumption) ?_
    try simp only [List.getElem_toArray, List.getElem_cons_succ, List.getElem_cons_zero, Act.put, List.setIfInBounds_toArray, List.set_cons_zero, List.set_cons_succ]
    refine wpAnyH_take (i := 5) (v := undef) rfl (by kernel_rfl) (by kernel_rfl) (by kernel_rfl) (fun _ _ _ h => h) (Or.inr ⟨by rfl, rfl⟩) (by assumption) ?_
    try simp only [List.getElem_toArray, List.getElem_cons_succ, List.getElem_cons_zero, Act.put, List.setIfInBounds_toArray, List.set_cons_zero, List.set_cons_succ]
    refine wpAnyH_take (i := 6) (v := undef) rfl (by kernel_rfl) (by kernel_rfl) (by kernel_rfl) (fun _ _ _ h => h) (Or.inr ⟨by rfl, rfl⟩) (by assumption) ?_
    try simp only [List.getElem_toArray, List.getElem_cons_succ, List.getElem_cons_zero, Act.put, List.setIfInBounds_toArray, List.set_cons_zero, List.set_cons_succ]
    refine wpAnyH_take (i := 7) (v := ?_) rfl (by kernel_rfl) (by kernel_rfl) (by kernel_rfl) (fun _ _ _ h => h) (Or.inl ⟨by rfl, ?_⟩) (by assumption) ?_
    rotate_left
    · intro w9 hSw; (try dsimp only at hSw); go_simp; try with_reducible rfl
    try simp only [List.getElem_toArray, List.getElem_cons_succ, List.getElem_cons_zero, Act.put, List.setIfInBounds_toArray, List.set_cons_zero, List.set_cons_succ]
    refine wpAnyH_take (i := 8) (v := ?_) rfl (by kernel_rfl) (by kernel_rfl) (by kernel_rfl) (fun _ _ _ h => h) (Or.inl ⟨by rfl, ?_⟩) (by assumption) ?_
    rotate_left
    · intro w9 hSw; (try dsimp only at hSw); go_simp; try with_reducible rfl
    try simp only [List.getElem_toArray, List.getElem_cons_succ, List.getElem_cons_zero, Act.put, List.setIfInBounds_toArray, List.set_cons_zero, List.set_cons_succ]
    refine wpAnyH_take (i := 9) (v := undef) rfl (by kernel_rfl) (by kernel_rfl) (by kernel_rfl) (fun _ _ _ h => h) (Or.inr ⟨by rfl, rfl⟩) (by assumption) ?_
    try simp only [List.getElem_toArray, List.getElem_cons_succ, List.getElem_cons_zero, Act.put, List.setIfInBounds_toArray, List.set_cons_zero, List.set_cons_succ]
    refine wpAnyH_take (i := 10) (v := undef) rfl (by kernel_rfl) (by kernel_rfl) (by kernel_rfl) (fun _ _ _ h => h) (Or.inr ⟨by rfl, rfl⟩) (by assumption) ?_
    try simp only [List.getElem_toArray, List.getElem_cons_succ, List.getElem_cons_zero, Act.put, List.setIfInBounds_toArray, List.set_cons_zero, List.set_cons_succ]
    refine wpAnyH_take (i := 11) (v := undef) rfl (by kernel_rfl) (by kernel_rfl) (by kernel_rfl) (fun _ _ _ h => h) (Or.inr ⟨by rfl, rfl⟩) (by assumption) ?_
    try simp only [List.getElem_toArray, List.getElem_cons_succ, List.getElem_cons_zero, Act.put, List.setIfInBounds_toArray, List.set_cons_zero, List.set_cons_succ]
    refine wpAnyH_take (i := 12) (v := undef) rfl (by kernel_rfl) (by kernel_rfl) (by kernel_rfl) (fun _ _ _ h => h) (Or.inr ⟨by rfl, rfl⟩) (by assumption) ?_
    try simp only [List.getElem_toArray, List.getElem_cons_succ, List.getElem_cons_zero, Act.put, List.setIfInBounds_toArray, List.set_cons_zero, List.set_cons_succ]
    refine wpAnyH_take (i := 13) (v := undef) rfl (by kernel_rfl) (by kernel_rfl) (by kernel_rfl) (fun _ _ _ h => h) (Or.inr ⟨by rfl, rfl⟩) (by assumption) ?_
    try simp only [List.getElem_toArray, List.getElem_cons_succ, List.getElem_cons_zero, Act.put, List.setIfInBounds_toArray, List.set_cons_zero, List.set_cons_succ]
    refine wpAnyH_take (i := 14) (v := undef) rfl (by kernel_rfl) (by kernel_rfl) (by kernel_rfl) (fun _ _ _ h => h) (Or.inr ⟨by rfl, rfl⟩) (by assumption) ?_
    try simp only [List.getElem_toArray, List.getElem_cons_succ, List.getElem_cons_zero, Act.put, List.setIfInBounds_toArray, List.set_cons_zero, List.set_cons_succ]
    refine wpAnyH_take (i := 15) (v := undef) rfl (by kernel_rfl) (by kernel_rfl) (by kernel_rfl) (fun _ _ _ h => h) (Or.inr ⟨by rfl, rfl⟩) (by assumption) ?_
    try simp only [List.getElem_toArray, List.getElem_cons_succ, List.getElem_cons_zero, Act.put, List.setIfInBounds_toArray, List.set_cons_zero, List.set_cons_succ]
    refine wpAnyH_take (i := 16) (v := undef) rfl (by kernel_rfl) (by kernel_rfl) (by kernel_rfl) (fun _ _ _ h => h) (Or.inr ⟨by rfl, rfl⟩) (by assumption) ?_
    try simp only [List.getElem_toArray, List.getElem_cons_succ, List.getElem_cons_zero, Act.put, List.setIfInBounds_toArray, List.set_cons_zero, List.set_cons_succ]
    refine wpAnyH_take (i := 17) (v := undef) rfl (by kernel_rfl) (by kernel_rfl) (by kernel_rfl) (fun _ _ _ h => h) (Or.inr ⟨by rfl, rfl⟩) (by assumption) ?_
    try simp only [List.getElem_toArray, List.getElem_cons_succ, List.getElem_cons_zero, Act.put, List.setIfInBounds_toArray, List.set_cons_zero, List.set_cons_succ]
    refine wpAnyH_take (i := 18) (v := ?_) rfl (by kernel_rfl) (by kernel_rfl) (by kernel_rfl) (fun _ _ _ h => h) (Or.inl ⟨by rfl, ?_⟩) (by assumption) ?_
    rotate_left
    · intro w9 hSw; (try dsimp only at hSw); go_simp; try with_reducible rfl
    try simp only [List.getElem_toArray, List.getElem_cons_succ, List.getElem_cons_zero, Act.put, List.setIfInBounds_toArray, List.set_cons_zero, List.set_cons_succ]
    refine wpAnyH_done (by kernel_rfl) ?_ _
    refine NoPanic.normal ?_
    replace x2_0 := cell_below HCv1.out x2_0 (by omega)
    replace x2_1 := cell_below HCv1.out x2_1 (by omega)
    replace f2_0 := fro_below HCv1.out f2_0 (by omega)
    replace f2_1 := fro_below HCv1.out f2_1 (by omega)
    have HBn := Lib.hid (HB0.out.trans (HCv1.out.mono (by omega)))
    go_wp2_with fail
    refine bodyPost_ret (v := .tuple #[.agg #[.int .i64 0, .slice none 0 0], .bool false]) (by simp [results, Try.results51, go_sem, x2_0, x2_1, f2_0, f2_1]) rfl ⟨_, rfl, ?_, ?_⟩
    · exact OwnL.nil _ _ _
    · exact ((HBn.out.setCell (by simp; omega) _).setCell (by simp; omega) _)
  have HN0 := Lib.hid h0
  cases h1 : netB n' ms
  · have HN1 := Lib.hid h1
    clear h h0 h1
    go_enter Try.func51, Try.ntmps51
    obtain ⟨wb1, hw1⟩ : ∃ wb1 : World, wb1 = w.alloc (.cells #[.int .i64 n, .slice a ls.length c] 65) := ⟨_, rfl⟩
    obtain ⟨wb2, hw2⟩ : ∃ wb2 : World, wb2 = wb1.alloc (.cells #[.int .i64 n', .slice a' ms.length c'] 65) := ⟨_, rfl⟩
    obtain ⟨wb3, hw3⟩ : ∃ wb3 : World, wb3 = wb2.alloc (.cells #[.int .i64 0, .slice none 0 0] 65) := ⟨_, rfl⟩
    have z1 : wb1.heap.size = w.heap.size + 1 := by rw [hw1]; simp
    have z2 : wb2.heap.size = w.heap.size + 2 := by rw [hw2]; simp; omega
    have z3 : wb3.heap.size = w.heap.size + 3 := by rw [hw3]; simp; omega
    have x0_0 := (by rw [hw3]; exact cell_old _ (by rw [hw2]; exact cell_old _ (by rw [hw1]; exact cell_new _ _ _ rfl rfl : wb1.cell? ⟨w.heap.size, 0, none⟩ = some (.int .i64 n)) : wb2.cell? ⟨w.heap.size, 0, none⟩ = some (.int .i64 n)) : wb3.cell? ⟨w.heap.size, 0, none⟩ = some (.int .i64 n))
    have x0_1 := (by rw [hw3]; exact cell_old _ (by rw [hw2]; exact cell_old _ (by rw [hw1]; exact cell_new _ _ _ rfl rfl : wb1.cell? ⟨w.heap.size, 1, none⟩ = some (.slice a ls.length c)) : wb2.cell? ⟨w.heap.size, 1, none⟩ = some (.slice a ls.length c)) : wb3.cell? ⟨w.heap.size, 1, none⟩ = some (.slice a ls.length c))
    have x1_0 := (by rw [hw3]; exact cell_old _ (by rw [hw2]; exact cell_new _ _ _ z1.symm rfl : wb2.cell? ⟨w.heap.size + 1, 0, none⟩ = some (.int .i64 n')) : wb3.cell? ⟨w.heap.size + 1, 0, none⟩ = some (.int .i64 n'))
    have x1_1 := (by rw [hw3]; exact cell_old _ (by rw [hw2]; exact cell_new _ _ _ z1.symm rfl : wb2.cell? ⟨w.heap.size + 1, 1, none⟩ = some (.slice a' ms.length c')) : wb3.cell? ⟨w.heap.size + 1, 1, none⟩ = some (.slice a' ms.length c'))
    have x2_0 := (by rw [hw3]; exact cell_new _ _ _ z2.symm rfl : wb3.cell? ⟨w.heap.size + 2, 0, none⟩ = some (.int .i64 0))
    have x2_1 := (by rw [hw3]; exact cell_new _ _ _ z2.symm rfl : wb3.cell? ⟨w.heap.size + 2, 1, none⟩ = some (.slice none 0 0))
    have HB0 := Lib.hid (show Below w.heap.size w wb3 by rw [hw3]; exact (show Below w.heap.size w wb2 by rw [hw2]; exact (show Below w.heap.size w wb1 by rw [hw1]; exact (Below.refl w.heap.size w).alloc (Nat.le_refl _) _).alloc (by omega) _).alloc (by omega) _)
    have s3 : w.heap.size + 3 ≤ wb3.heap.size := by omega
    have f2_0 := (by rw [hw3]; exact fro_new _ _ _ z2.symm : wb3.frozen? ⟨w.heap.size + 2, 0, none⟩ = false)
    have f2_1 := (by rw [hw3]; exact fro_new _ _ _ z2.symm : wb3.frozen? ⟨w.heap.size + 2, 1, none⟩ = false)
    have HZ3 := Lib.hid z3
    clear z1 z2 z3
    go_wp2_with fail
    rw [← hw1, ← hw2, ← hw3]
    clear hw1 hw2 hw3
    have HG := Lib.hid (show ∀ wa : World, Below wb3.heap.size wb3 wa → Calls Try.prog 108 #[.agg #[.int .i64 n, .slice a ls.length c]] wa (RetB true wa) from fun wa hb => impl_net _ ls c n wa ((Hhr.out.below HB0.out).below hb) hn Hhm.out true HN0)
    have HH := Lib.hid (show ∀ wa : World, Below wb3.heap.size wb3 wa → Calls Try.prog 108 #[.agg #[.int .i64 n', .slice a' ms.length c']] wa (RetB false wa) from fun wa hb => impl_net a' ms c' n' wa ((Hhq.out.below HB0.out).below hb) hk Hhp.out false HN1)
    refine wp_region_noPanic ?_
    refine wp_region_held_drew (S := fun w' => w'.cell? ⟨w.heap.size, 0, none⟩ = some (.int .i64 n) ∧ w'.cell? ⟨w.heap.size, 1, none⟩ = some (.slice a ls.length c) ∧ w'.cell? ⟨w.heap.size + 1, 0, none⟩ = some (.int .i64 n') ∧ w'.cell? ⟨w.heap.size + 1, 1, none⟩ = some (.slice a' ms.length c')) (by kernel_rfl) ?_ (fun hHeld => ?_)
    · exact ⟨x0_0, x0_1, x1_0, x1_1⟩
    refine wpAnyH_take (i := 0) (v := ?_) rfl (by kernel_rfl) (by kernel_rfl) (by kernel_rfl) (fun _ _ _ h => h) (Or.inl ⟨by rfl, ?_⟩) (by assumption) ?_
    rotate_left
    · intro w9 hSw; (try dsimp only at hSw); go_simp; try with_reducible rfl
    try simp only [List.getElem_toArray, List.getElem_cons_succ, List.getElem_cons_zero, Act.put, List.setIfInBounds_toArray, List.set_cons_zero, List.set_cons_succ]
    refine wpAnyH_ready (rs := [1]) (by kernel_rfl) (by simp) ?_
    refine AllReadyH.cons rfl (fun K hK => ?_) AllReadyH.nil
    clear hHeld
    go_simp
    refine (HG.out _ (Below.refl _ _).drew).mono ?_
    rintro e' v1 ⟨rfl, hb⟩
    have HCv1 := Lib.hid ((Below.refl wb3.heap.size wb3).drew.trans hb)
    have sv1 := HCv1.out.size
    clear hb
    have mv1_0 := cell_below HCv1.out x0_0 (by omega)
    have mv1_1 := cell_below HCv1.out x0_1 (by omega)
    have mv1_2 := cell_below HCv1.out x1_0 (by omega)
    have mv1_3 := cell_below HCv1.out x1_1 (by omega)
    refine hK.out _ _ ?_ (fun hHeld => ?_)
    · exact ⟨mv1_0, mv1_1, mv1_2, mv1_3⟩
    clear hK K
    try simp only [List.getElem_toArray, List.getElem_cons_succ, List.getElem_cons_zero, Act.put, List.setIfInBounds_toArray, List.set_cons_zero, List.set_cons_succ]
    refine wpAnyH_take (i := 2) (v := ?_) rfl (by kernel_rfl) (by kernel_rfl) (by kernel_rfl) (fun _ _ _ h => h) (Or.inl ⟨by rfl, ?_⟩) (by assumption) ?_
    rotate_left
    · intro w9 hSw; (try dsimp only at hSw); go_simp; try with_reducible rfl
    try simp only [List.getElem_toArray, List.getElem_cons_succ, List.getElem_cons_zero, Act.put, List.setIfInBounds_toArray, List.set_cons_zero, List.set_cons_succ]
    refine wpAnyH_take (i := 3) (v := ?_) rfl (by kernel_rfl) (by kernel_rfl) (by kernel_rfl) (fun _ _ _ h => h) (Or.inl ⟨by rfl, ?_⟩) (by assumption) ?_
    rotate_left
    · intro w9 hSw; (try dsimp only at hSw); go_simp; try with_reducible rfl
    try simp only [List.getElem_toArray, List.getElem_cons_succ, List.getElem_cons_zero, Act.put, List.setIfInBounds_toArray, List.set_cons_zero, List.set_cons_succ]
    refine wpAnyH_take (i := 4) (v := ?_) rfl (by kernel_rfl) (by kernel_rfl) (by kernel_rfl) (fun _ _ _ h => h) (Or.inl ⟨by rfl, ?_⟩) (by assumption) ?_
    rotate_left
    · intro w9 hSw; (try dsimp only at hSw); go_simp; try with_reducible rfl
    try simp only [List.getElem_toArray, List.getElem_cons_succ, List.getElem_cons_zero, Act.put, List.setIfInBounds_toArray, List.set_cons_zero, List.set_cons_succ]
    refine wpAnyH_ready (rs := [5]) (by kernel_rfl) (by simp) ?_
    refine AllReadyH.cons rfl (fun K hK => ?_) AllReadyH.nil
    clear hHeld
    go_simp
    refine (HH.out _ HCv1.out).mono ?_
    rintro e' v2 ⟨rfl, hb⟩
    have HCv2 := Lib.hid (HCv1.out.trans (hb.mono HCv1.out.size))
    have sv2 := HCv2.out.size
    clear hb
    have mv2_0 := cell_below HCv2.out x0_0 (by omega)
    have mv2_1 := cell_below HCv2.out x0_1 (by omega)
    have mv2_2 := cell_below HCv2.out x1_0 (by omega)
    have mv2_3 := cell_below HCv2.out x1_1 (by omega)
    refine hK.out _ _ ?_ (fun hHeld => ?_)
    · exact ⟨mv2_0, mv2_1, mv2_2, mv2_3⟩
    clear hK K
    try simp only [List.getElem_toArray, List.getElem_cons_succ, List.getElem_cons_zero, Act.put, List.setIfInBounds_toArray, List.set_cons_zero, List.set_cons_succ]
    refine wpAnyH_take (i := 6) (v := ?_) rfl (by kernel_rfl) (by kernel_rfl) (by kernel_rfl) (fun _ _ _ h => h) (Or.inl ⟨by rfl, ?_⟩) (by assumption) ?_
    rotate_left
    · intro w9 hSw; (try dsimp only at hSw); go_simp; try with_reducible rfl
    try simp only [List.getElem_toArray, List.getElem_cons_succ, List.getElem_cons_zero, Act.put, List.setIfInBounds_toArray, List.set_cons_zero, List.set_cons_succ]
    refine wpAnyH_take (i := 7) (v := ?_) rfl (by kernel_rfl) (by kernel_rfl) (by kernel_rfl) (fun _ _ _ h => h) (Or.inl ⟨by rfl, ?_⟩) (by assumption) ?_
    rotate_left
    · intro w9 hSw; (try dsimp only at hSw); go_simp; try with_reducible rfl
    try simp only [List.getElem_toArray, List.getElem_cons_succ, List.getElem_cons_zero, Act.put, List.setIfInBounds_toArray, List.set_cons_zero, List.set_cons_succ]
    refine wpAnyH_take (i := 8) (v := ?_) rfl (by kernel_rfl) (by kernel_rfl) (by kernel_rfl) (fun _ _ _ h => h) (Or.inl ⟨by rfl, ?_⟩) (by assumption) ?_
    rotate_left
    · intro w9 hSw; (try dsimp only at hSw); go_simp; try with_reducible rfl
    try simp only [List.getElem_toArray, List.getElem_cons_succ, List.getElem_cons_zero, Act.put, List.setIfInBounds_toArray, List.set_cons_zero, List.set_cons_succ]
    refine wpAnyH_take (i := 9) (v := undef) rfl (by kernel_rfl) (by kernel_rfl) (by kernel_rfl) (fun _ _ _ h => h) (Or.inr ⟨by rfl, rfl⟩) (by assumption) ?_
    try simp only [List.getElem_toArray, List.getElem_cons_succ, List.getElem_cons_zero, Act.put, List.setIfInBounds_toArray, List.set_cons_zero, List.set_cons_succ]
    refine wpAnyH_take (i := 10) (v := undef) rfl (by kernel_rfl) (by kernel_rfl) (by kernel_rfl) (fun _ _ _ h => h) (Or.inr ⟨by rfl, rfl⟩) (by assumption) ?_
    try simp only [List.getElem_toArray, List.getElem_cons_succ, List.getElem_cons_zero, Act.put, List.setIfInBounds_toArray, List.set_cons_zero, List.set_cons_succ]
    refine wpAnyH_take (i := 11) (v := undef) rfl (by kernel_rfl) (by kernel_rfl) (by kernel_rfl) (fun _ _ _ h => h) (Or.inr ⟨by rfl, rfl⟩) (by assumption) ?_
    try simp only [List.getElem_toArray, List.getElem_cons_succ, List.getElem_cons_zero, Act.put, List.setIfInBounds_toArray, List.set_cons_zero, List.set_cons_succ]
    refine wpAnyH_take (i := 12) (v := undef) rfl (by kernel_rfl) (by kernel_rfl) (by kernel_rfl) (fun _ _ _ h => h) (Or.inr ⟨by rfl, rfl⟩) (by assumption) ?_
    try simp only [List.getElem_toArray, List.getElem_cons_succ, List.getElem_cons_zero, Act.put, List.setIfInBounds_toArray, List.set_cons_zero, List.set_cons_succ]
    refine wpAnyH_take (i := 13) (v := undef) rfl (by kernel_rfl) (by kernel_rfl) (by kernel_rfl) (fun _ _ _ h => h) (Or.inr ⟨by rfl, rfl⟩) (by assumption) ?_
    try simp only [List.getElem_toArray, List.getElem_cons_succ, List.getElem_cons_zero, Act.put, List.setIfInBounds_toArray, List.set_cons_zero, List.set_cons_succ]
    refine wpAnyH_take (i := 14) (v := undef) rfl (by kernel_rfl) (by kernel_rfl) (by kernel_rfl) (fun _ _ _ h => h) (Or.inr ⟨by rfl, rfl⟩) (by assumption) ?_
    try simp only [List.getElem_toArray, List.getElem_cons_succ, List.getElem_cons_zero, Act.put, List.setIfInBounds_toArray, List.set_cons_zero, List.set_cons_succ]
    refine wpAnyH_take (i := 15) (v := undef) rfl (by kernel_rfl) (by kernel_rfl) (by kernel_rfl) (fun _ _ _ h => h) (Or.inr ⟨by rfl, rfl⟩) (by assumption) ?_
    try simp only [List.getElem_toArray, List.getElem_cons_succ, List.getElem_cons_zero, Act.put, List.setIfInBounds_toArray, List.set_cons_zero, List.set_cons_succ]
    refine wpAnyH_take (i := 16) (v := undef) rfl (by kernel_rfl) (by kernel_rfl) (by kernel_rfl) (fun _ _ _ h => h) (Or.inr ⟨by rfl, rfl⟩) (by assumption) ?_
    try simp only [List.getElem_toArray, List.getElem_cons_succ, List.getElem_cons_zero, Act.put, List.setIfInBounds_toArray, List.set_cons_zero, List.set_cons_succ]
    refine wpAnyH_take (i := 17) (v := undef) rfl (by kernel_rfl) (by kernel_rfl) (by kernel_rfl) (fun _ _ _ h => h) (Or.inr ⟨by rfl, rfl⟩) (by assumption) ?_
    try simp only [List.getElem_toArray, List.getElem_cons_succ, List.getElem_cons_zero, Act.put, List.setIfInBounds_toArray, List.set_cons_zero, List.set_cons_succ]
    refine wpAnyH_take (i := 18) (v := ?_) rfl (by kernel_rfl) (by kernel_rfl) (by kernel_rfl) (fun _ _ _ h => h) (Or.inl ⟨by rfl, ?_⟩) (by assumption) ?_
    rotate_left
    · intro w9 hSw; (try dsimp only at hSw); go_simp; try with_reducible rfl
    try simp only [List.getElem_toArray, List.getElem_cons_succ, List.getElem_cons_zero, Act.put, List.setIfInBounds_toArray, List.set_cons_zero, List.set_cons_succ]
    refine wpAnyH_done (by kernel_rfl) ?_ _
    refine NoPanic.normal ?_
    replace x2_0 := cell_below HCv2.out x2_0 (by omega)
    replace x2_1 := cell_below HCv2.out x2_1 (by omega)
    replace f2_0 := fro_below HCv2.out f2_0 (by omega)
    replace f2_1 := fro_below HCv2.out f2_1 (by omega)
    have HBn := Lib.hid (HB0.out.trans (HCv2.out.mono (by omega)))
    go_wp2_with fail
    refine bodyPost_ret (v := .tuple #[.agg #[.int .i64 0, .slice none 0 0], .bool false]) (by simp [results, Try.results51, go_sem, x2_0, x2_1, f2_0, f2_1]) rfl ⟨_, rfl, ?_, ?_⟩
    · exact OwnL.nil _ _ _
    · exact ((HBn.out.setCell (by simp; omega) _).setCell (by simp; omega) _)
  have HN1 := Lib.hid h1
  have hlast : ¬ n' = ((ls.getD (ls.length - 1) []).length : Int) := by
    rcases h with h | h | h
    · rw [h0] at h; cases h
    · rw [h1] at h; cases h
    · exact h
  have HMS := Lib.hid (show 1 ≤ ls.length ∧ 1 ≤ ms.length ∧ ls.length ≤ 6 ∧ ms.length ≤ 6 from ⟨(net_len h0).1, (net_len h1).1, (net_len h0).2, (net_len h1).2⟩)
  obtain ⟨l, hl⟩ : ∃ l, l = ls.getD (ls.length - 1) [] := ⟨_, rfl⟩
  have hl4 : l.length ≤ 4 := by have := net_lay h0 (ls.length - 1) (by have := net_len h0; omega); rw [← hl] at this; exact this.2
  have HLST := Lib.hid hl.symm
  rw [← hl] at hlast
  clear hl
  have g3 : (n' != (l.length : Int)) = true := by simpa using hlast
  clear h h0 h1 hlast
  go_enter Try.func51, Try.ntmps51
  obtain ⟨wb1, hw1⟩ : ∃ wb1 : World, wb1 = w.alloc (.cells #[.int .i64 n, .slice a ls.length c] 65) := ⟨_, rfl⟩
  obtain ⟨wb2, hw2⟩ : ∃ wb2 : World, wb2 = wb1.alloc (.cells #[.int .i64 n', .slice a' ms.length c'] 65) := ⟨_, rfl⟩
  obtain ⟨wb3, hw3⟩ : ∃ wb3 : World, wb3 = wb2.alloc (.cells #[.int .i64 0, .slice none 0 0] 65) := ⟨_, rfl⟩
  have z1 : wb1.heap.size = w.heap.size + 1 := by rw [hw1]; simp
  have z2 : wb2.heap.size = w.heap.size + 2 := by rw [hw2]; simp; omega
  have z3 : wb3.heap.size = w.heap.size + 3 := by rw [hw3]; simp; omega
  have x0_0 := (by rw [hw3]; exact cell_old _ (by rw [hw2]; exact cell_old _ (by rw [hw1]; exact cell_new _ _ _ rfl rfl : wb1.cell? ⟨w.heap.size, 0, none⟩ = some (.int .i64 n)) : wb2.cell? ⟨w.heap.size, 0, none⟩ = some (.int .i64 n)) : wb3.cell? ⟨w.heap.size, 0, none⟩ = some (.int .i64 n))
  have x0_1 := (by rw [hw3]; exact cell_old _ (by rw [hw2]; exact cell_old _ (by rw [hw1]; exact cell_new _ _ _ rfl rfl : wb1.cell? ⟨w.heap.size, 1, none⟩ = some (.slice a ls.length c)) : wb2.cell? ⟨w.heap.size, 1, none⟩ = some (.slice a ls.length c)) : wb3.cell? ⟨w.heap.size, 1, none⟩ = some (.slice a ls.length c))
  have x1_0 := (by rw [hw3]; exact cell_old _ (by rw [hw2]; exact cell_new _ _ _ z1.symm rfl : wb2.cell? ⟨w.heap.size + 1, 0, none⟩ = some (.int .i64 n')) : wb3.cell? ⟨w.heap.size + 1, 0, none⟩ = some (.int .i64 n'))
  have x1_1 := (by rw [hw3]; exact cell_old _ (by rw [hw2]; exact cell_new _ _ _ z1.symm rfl : wb2.cell? ⟨w.heap.size + 1, 1, none⟩ = some (.slice a' ms.length c')) : wb3.cell? ⟨w.heap.size + 1, 1, none⟩ = some (.slice a' ms.length c'))
  have x2_0 := (by rw [hw3]; exact cell_new _ _ _ z2.symm rfl : wb3.cell? ⟨w.heap.size + 2, 0, none⟩ = some (.int .i64 0))
  have x2_1 := (by rw [hw3]; exact cell_new _ _ _ z2.symm rfl : wb3.cell? ⟨w.heap.size + 2, 1, none⟩ = some (.slice none 0 0))
  have HB0 := Lib.hid (show Below w.heap.size w wb3 by rw [hw3]; exact (show Below w.heap.size w wb2 by rw [hw2]; exact (show Below w.heap.size w wb1 by rw [hw1]; exact (Below.refl w.heap.size w).alloc (Nat.le_refl _) _).alloc (by omega) _).alloc (by omega) _)
  have s3 : w.heap.size + 3 ≤ wb3.heap.size := by omega
  have f2_0 := (by rw [hw3]; exact fro_new _ _ _ z2.symm : wb3.frozen? ⟨w.heap.size + 2, 0, none⟩ = false)
  have f2_1 := (by rw [hw3]; exact fro_new _ _ _ z2.symm : wb3.frozen? ⟨w.heap.size + 2, 1, none⟩ = false)
  have HZ3 := Lib.hid z3
  clear z1 z2 z3
  go_wp2_with fail
  rw [← hw1, ← hw2, ← hw3]
  clear hw1 hw2 hw3
  have HG := Lib.hid (show ∀ wa : World, Below wb3.heap.size wb3 wa → Calls Try.prog 108 #[.agg #[.int .i64 n, .slice a ls.length c]] wa (RetB true wa) from fun wa hb => impl_net _ ls c n wa ((Hhr.out.below HB0.out).below hb) hn Hhm.out true HN0)
  have HH := Lib.hid (show ∀ wa : World, Below wb3.heap.size wb3 wa → Calls Try.prog 108 #[.agg #[.int .i64 n', .slice a' ms.length c']] wa (RetB true wa) from fun wa hb => impl_net a' ms c' n' wa ((Hhq.out.below HB0.out).below hb) hk Hhp.out true HN1)
  have HLS := Lib.hid (fun (wa : World) (hb : Below wb3.heap.size wb3 wa) => last_any a ls c n wa ((Hhr.out.below HB0.out).below hb) hn)
  refine wp_region_noPanic ?_
  refine wp_region_held_drew (S := fun w' => w'.cell? ⟨w.heap.size, 0, none⟩ = some (.int .i64 n) ∧ w'.cell? ⟨w.heap.size, 1, none⟩ = some (.slice a ls.length c) ∧ w'.cell? ⟨w.heap.size + 1, 0, none⟩ = some (.int .i64 n') ∧ w'.cell? ⟨w.heap.size + 1, 1, none⟩ = some (.slice a' ms.length c')) (by kernel_rfl) ?_ (fun hHeld => ?_)
  · exact ⟨x0_0, x0_1, x1_0, x1_1⟩
  refine wpAnyH_take (i := 0) (v := ?_) rfl (by kernel_rfl) (by kernel_rfl) (by kernel_rfl) (fun _ _ _ h => h) (Or.inl ⟨by rfl, ?_⟩) (by assumption) ?_
  rotate_left
  · intro w9 hSw; (try dsimp only at hSw); go_simp; try with_reducible rfl
  try simp only [List.getElem_toArray, List.getElem_cons_succ, List.getElem_cons_zero, Act.put, List.setIfInBounds_toArray, List.set_cons_zero, List.set_cons_succ]
  refine wpAnyH_ready (rs := [1]) (by kernel_rfl) (by simp) ?_
  refine AllReadyH.cons rfl (fun K hK => ?_) AllReadyH.nil
  clear hHeld
  go_simp
  refine (HG.out _ (Below.refl _ _).drew).mono ?_
  rintro e' v1 ⟨rfl, hb⟩
  have HCv1 := Lib.hid ((Below.refl wb3.heap.size wb3).drew.trans hb)
  have sv1 := HCv1.out.size
  clear hb
  have mv1_0 := cell_below HCv1.out x0_0 (by omega)
  have mv1_1 := cell_below HCv1.out x0_1 (by omega)
  have mv1_2 := cell_below HCv1.out x1_0 (by omega)
  have mv1_3 := cell_below HCv1.out x1_1 (by omega)
  refine hK.out _ _ ?_ (fun hHeld => ?_)
  · exact ⟨mv1_0, mv1_1, mv1_2, mv1_3⟩
  clear hK K
  try simp only [List.getElem_toArray, List.getElem_cons_succ, List.getElem_cons_zero, Act.put, List.setIfInBounds_toArray, List.set_cons_zero, List.set_cons_succ]
  refine wpAnyH_take (i := 2) (v := ?_) rfl (by kernel_rfl) (by kernel_rfl) (by kernel_rfl) (fun _ _ _ h => h) (Or.inl ⟨by rfl, ?_⟩) (by assumption) ?_
  rotate_left
  · intro w9 hSw; (try dsimp only at hSw); go_simp; try with_reducible rfl
  try simp only [List.getElem_toArray, List.getElem_cons_succ, List.getElem_cons_zero, Act.put, List.setIfInBounds_toArray, List.set_cons_zero, List.set_cons_succ]
  refine wpAnyH_take (i := 3) (v := ?_) rfl (by kernel_rfl) (by kernel_rfl) (by kernel_rfl) (fun _ _ _ h => h) (Or.inl ⟨by rfl, ?_⟩) (by assumption) ?_
  rotate_left
  · intro w9 hSw; (try dsimp only at hSw); go_simp; try with_reducible rfl
  try simp only [List.getElem_toArray, List.getElem_cons_succ, List.getElem_cons_zero, Act.put, List.setIfInBounds_toArray, List.set_cons_zero, List.set_cons_succ]
  refine wpAnyH_take (i := 4) (v := ?_) rfl (by kernel_rfl) (by kernel_rfl) (by kernel_rfl) (fun _ _ _ h => h) (Or.inl ⟨by rfl, ?_⟩) (by assumption) ?_
  rotate_left
  · intro w9 hSw; (try dsimp only at hSw); go_simp; try with_reducible rfl
  try simp only [List.getElem_toArray, List.getElem_cons_succ, List.getElem_cons_zero, Act.put, List.setIfInBounds_toArray, List.set_cons_zero, List.set_cons_succ]
  refine wpAnyH_ready (rs := [5]) (by kernel_rfl) (by simp) ?_
  refine AllReadyH.cons rfl (fun K hK => ?_) AllReadyH.nil
  clear hHeld
  go_simp
  refine (HH.out _ HCv1.out).mono ?_
  rintro e' v2 ⟨rfl, hb⟩
  have HCv2 := Lib.hid (HCv1.out.trans (hb.mono HCv1.out.size))
  have sv2 := HCv2.out.size
  clear hb
  have mv2_0 := cell_below HCv2.out x0_0 (by omega)
  have mv2_1 := cell_below HCv2.out x0_1 (by omega)
  have mv2_2 := cell_below HCv2.out x1_0 (by omega)
  have mv2_3 := cell_below HCv2.out x1_1 (by omega)
  refine hK.out _ _ ?_ (fun hHeld => ?_)
  · exact ⟨mv2_0, mv2_1, mv2_2, mv2_3⟩
  clear hK K
  try simp only [List.getElem_toArray, List.getElem_cons_succ, List.getElem_cons_zero, Act.put, List.setIfInBounds_toArray, List.set_cons_zero, List.set_cons_succ]
  refine wpAnyH_take (i := 6) (v := ?_) rfl (by kernel_rfl) (by kernel_rfl) (by kernel_rfl) (fun _ _ _ h => h) (Or.inl ⟨by rfl, ?_⟩) (by assumption) ?_
  rotate_left
  · intro w9 hSw; (try dsimp only at hSw); go_simp; try with_reducible rfl
  try simp only [List.getElem_toArray, List.getElem_cons_succ, List.getElem_cons_zero, Act.put, List.setIfInBounds_toArray, List.set_cons_zero, List.set_cons_succ]
  refine wpAnyH_take (i := 7) (v := ?_) rfl (by kernel_rfl) (by kernel_rfl) (by kernel_rfl) (fun _ _ _ h => h) (Or.inl ⟨by rfl, ?_⟩) (by assumption) ?_
  rotate_left
  · intro w9 hSw; (try dsimp only at hSw); go_simp; try with_reducible rfl
  try simp only [List.getElem_toArray, List.getElem_cons_succ, List.getElem_cons_zero, Act.put, List.setIfInBounds_toArray, List.set_cons_zero, List.set_cons_succ]
  refine wpAnyH_take (i := 8) (v := ?_) rfl (by kernel_rfl) (by kernel_rfl) (by kernel_rfl) (fun _ _ _ h => h) (Or.inl ⟨by rfl, ?_⟩) (by assumption) ?_
  rotate_left
  · intro w9 hSw; (try dsimp only at hSw); go_simp; try with_reducible rfl
  try simp only [List.getElem_toArray, List.getElem_cons_succ, List.getElem_cons_zero, Act.put, List.setIfInBounds_toArray, List.set_cons_zero, List.set_cons_succ]
  refine wpAnyH_take (i := 9) (v := ?_) rfl (by kernel_rfl) (by kernel_rfl) (by kernel_rfl) (fun _ _ _ h => h) (Or.inl ⟨by rfl, ?_⟩) (by assumption) ?_
  rotate_left
  · intro w9 hSw; (try dsimp only at hSw); go_simp; try with_reducible rfl
  try simp only [List.getElem_toArray, List.getElem_cons_succ, List.getElem_cons_zero, Act.put, List.setIfInBounds_toArray, List.set_cons_zero, List.set_cons_succ]
  refine wpAnyH_take (i := 10) (v := ?_) rfl (by kernel_rfl) (by kernel_rfl) (by kernel_rfl) (fun _ _ _ h => h) (Or.inl ⟨by rfl, ?_⟩) (by assumption) ?_
  rotate_left
  · intro w9 hSw; (try dsimp only at hSw); go_simp; try with_reducible rfl
  try simp only [List.getElem_toArray, List.getElem_cons_succ, List.getElem_cons_zero, Act.put, List.setIfInBounds_toArray, List.set_cons_zero, List.set_cons_succ]
  refine wpAnyH_take (i := 11) (v := ?_) rfl (by kernel_rfl) (by kernel_rfl) (by kernel_rfl) (fun _ _ _ h => h) (Or.inl ⟨by rfl, ?_⟩) (by assumption) ?_
  rotate_left
  · intro w9 hSw; (try dsimp only at hSw); go_simp; try with_reducible rfl
  try simp only [List.getElem_toArray, List.getElem_cons_succ, List.getElem_cons_zero, Act.put, List.setIfInBounds_toArray, List.set_cons_zero, List.set_cons_succ]
  refine wpAnyH_ready (rs := [12]) (by kernel_rfl) (by simp) ?_
  refine AllReadyH.cons rfl (fun K hK => ?_) AllReadyH.nil
  clear hHeld
  go_simp
  refine (HLS.out _ HCv2.out).mono ?_
  rintro e' v3 ⟨p9, rfl, hst9, hb⟩
  obtain ⟨r9, hr9⟩ := rev_last ls HMS.out.1
  rw [hr9, HLST.out] at hst9
  obtain ⟨gS, qS, aS, cS, rfl, hgS, _, hS1, _, _⟩ := hst9
  have HCv3 := Lib.hid (HCv2.out.trans (hb.mono HCv2.out.size))
  have sv3 := HCv3.out.size
  clear hb
  have mv3_0 := cell_below HCv3.out x0_0 (by omega)
  have mv3_1 := cell_below HCv3.out x0_1 (by omega)
  have mv3_2 := cell_below HCv3.out x1_0 (by omega)
  have mv3_3 := cell_below HCv3.out x1_1 (by omega)
  refine hK.out _ _ ?_ (fun hHeld => ?_)
  · exact ⟨mv3_0, mv3_1, mv3_2, mv3_3⟩
  clear hK K
  try simp only [List.getElem_toArray, List.getElem_cons_succ, List.getElem_cons_zero, Act.put, List.setIfInBounds_toArray, List.set_cons_zero, List.set_cons_succ]
  refine wpAnyH_take (i := 13) (v := ?_) rfl (by kernel_rfl) (by kernel_rfl) (by kernel_rfl) (fun _ _ _ h => h) (Or.inl ⟨by rfl, ?_⟩) (by assumption) ?_
  rotate_left
  · intro w9 hSw; (try dsimp only at hSw); go_simp; try with_reducible rfl
  try simp only [List.getElem_toArray, List.getElem_cons_succ, List.getElem_cons_zero, Act.put, List.setIfInBounds_toArray, List.set_cons_zero, List.set_cons_succ]
  refine wpAnyH_take (i := 14) (v := ?_) rfl (by kernel_rfl) (by kernel_rfl) (by kernel_rfl) (fun _ _ _ h => h) (Or.inl ⟨by rfl, ?_⟩) (by assumption) ?_
  rotate_left
  · intro w9 hSw; (try dsimp only at hSw); go_simp; try with_reducible rfl
  try simp only [List.getElem_toArray, List.getElem_cons_succ, List.getElem_cons_zero, Act.put, List.setIfInBounds_toArray, List.set_cons_zero, List.set_cons_succ]
  refine wpAnyH_ready (rs := [15]) (by kernel_rfl) (by simp) ?_
  refine AllReadyH.cons rfl (fun K hK => ?_) AllReadyH.nil
  clear hHeld
  go_simp
  refine hK.out _ _ ?_ (fun hHeld => ?_)
  · exact ⟨mv3_0, mv3_1, mv3_2, mv3_3⟩
  clear hK K
  try simp only [List.getElem_toArray, List.getElem_cons_succ, List.getElem_cons_zero, Act.put, List.setIfInBounds_toArray, List.set_cons_zero, List.set_cons_succ]
  refine wpAnyH_take (i := 16) (v := ?_) rfl (by kernel_rfl) (by kernel_rfl) (by kernel_rfl) (fun _ _ _ h => h) (Or.inl ⟨by rfl, ?_⟩) (by assumption) ?_
  rotate_left
  · intro w9 hSw; (try dsimp only at hSw); go_simp; try with_reducible rfl
  try simp only [List.getElem_toArray, List.getElem_cons_succ, List.getElem_cons_zero, Act.put, List.setIfInBounds_toArray, List.set_cons_zero, List.set_cons_succ]
  refine wpAnyH_take (i := 17) (v := ?_) rfl (by kernel_rfl) (by kernel_rfl) (by kernel_rfl) (fun _ _ _ h => h) (Or.inl ⟨by rfl, ?_⟩) (by assumption) ?_
  rotate_left
  · intro w9 hSw; (try dsimp only at hSw); go_simp; try with_reducible rfl
  try simp only [List.getElem_toArray, List.getElem_cons_succ, List.getElem_cons_zero, Act.put, List.setIfInBounds_toArray, List.set_cons_zero, List.set_cons_succ]
  refine wpAnyH_take (i := 18) (v := ?_) rfl (by kernel_rfl) (by kernel_rfl) (by kernel_rfl) (fun _ _ _ h => h) (Or.inl ⟨by rfl, ?_⟩) (by assumption) ?_
  rotate_left
  · intro w9 hSw; (try dsimp only at hSw); go_simp; try with_reducible rfl
  try simp only [List.getElem_toArray, List.getElem_cons_succ, List.getElem_cons_zero, Act.put, List.setIfInBounds_toArray, List.set_cons_zero, List.set_cons_succ]
  refine wpAnyH_done (by kernel_rfl) ?_ _
  refine NoPanic.normal ?_
  replace x2_0 := cell_below HCv3.out x2_0 (by omega)
  replace x2_1 := cell_below HCv3.out x2_1 (by omega)
  replace f2_0 := fro_below HCv3.out f2_0 (by omega)
  replace f2_1 := fro_below HCv3.out f2_1 (by omega)
  have HBn := Lib.hid (HB0.out.trans (HCv3.out.mono (by omega)))
  go_wp2_with fail
  refine bodyPost_ret (v := .tuple #[.agg #[.int .i64 0, .slice none 0 0], .bool false]) (by simp [results, Try.results51, go_sem, x2_0, x2_1, f2_0, f2_1]) rfl ⟨_, rfl, ?_, ?_⟩
  · exact OwnL.nil _ _ _
  · exact ((HBn.out.setCell (by simp; omega) _).setCell (by simp; omega) _)
set_option maxRecDepth 100000 in
set_option maxHeartbeats 16000000 in
theorem impl_an_yes (a : Option Addr) (ls : List (List (List Int × Int))) (c : Nat) (n : Int) (a' : Option Addr) (ms : List (List (List Int × Int))) (c' : Nat) (n' : Int) (w : World) (hr : ReadsL w a ls) (hq : ReadsL w a' ms) (hn : ls.length ≤ 1048576) (hk : ms.length ≤ 1048576) (hm : ∀ x ∈ ls, x.length ≤ 1048576 ∧ ∀ y ∈ x, y.1.length ≤ 1048576) (hp : ∀ x ∈ ms, x.length ≤ 1048576 ∧ ∀ y ∈ x, y.1.length ≤ 1048576) (h : netB n ls = true ∧ netB n' ms = true ∧ n' = ((ls.getD (ls.length - 1) []).length : Int) ∧ ls.length + ms.length ≤ 6) :
    Calls Try.prog 51 #[.agg #[.int .i64 n, .slice a ls.length c], .agg #[.int .i64 n', .slice a' ms.length c']] w (RetTB (ls ++ ms) n true w) := by
  have Hhr := Lib.hid hr
  have Hhq := Lib.hid hq
  have Hhm := Lib.hid hm
  have Hhp := Lib.hid hp
  clear hr hq hm hp
  obtain ⟨h0, h1, hlast, hle⟩ := h
  have HN0 := Lib.hid h0
  have HN1 := Lib.hid h1
  have hjb := (show netB n (ls ++ ms) = true by rw [net_join h0 h1 hlast]; exact decide_eq_true hle)
  have hjm := (show ∀ x ∈ ls ++ ms, x.length ≤ 1048576 ∧ ∀ y ∈ x, y.1.length ≤ 1048576 from fun x hx => (List.mem_append.1 hx).elim (Hhm.out x) (Hhp.out x))
  have hcb := (show ∀ k, k < (ls ++ ms).length → ((ls ++ ms).getD k []).length ≤ 1000 ∧ ∀ j, j < ((ls ++ ms).getD k []).length → 1 ≤ (((ls ++ ms).getD k []).getD j ([], 0)).1.length ∧ (((ls ++ ms).getD k []).getD j ([], 0)).1.length ≤ 100 from fun k hk9 => by
    rw [List.length_append] at hk9
    by_cases e : k < ls.length
    · rw [getD_left ls ms [] k e]
      exact ⟨by have := net_lay h0 k e; omega, fun j hj => by
        have h8 := (gateB_iff _ _).1 (net_gate h0 k e j hj)
        have h9 := (planeB_iff _ _).1 h8.1
        omega⟩
    · rw [getD_right ls ms [] k (by omega)]
      exact ⟨by have := net_lay h1 (k - ls.length) (by omega); omega, fun j hj => by
        have h8 := (gateB_iff _ _).1 (net_gate h1 (k - ls.length) (by omega) j hj)
        have h9 := (planeB_iff _ _).1 h8.1
        omega⟩)
  obtain ⟨J, hJ⟩ : ∃ J, J = ls ++ ms := ⟨_, rfl⟩
  have HJL := Lib.hid (show J.length = ls.length + ms.length by rw [hJ, List.length_append])
  have HPO := Lib.hid (show ∀ (e' : Ending) (w' : World), RetTB J n true w e' w' → RetTB (ls ++ ms) n true w e' w' from by rw [hJ]; exact fun _ _ hh => hh)
  rw [← hJ] at hjb hjm hcb
  have HJB := Lib.hid hjb
  have HJM := Lib.hid hjm
  have HCB := Lib.hid hcb
  have HJE := Lib.hid hJ
  clear hjb hjm hcb hJ
  obtain ⟨vs, hvl, hv1, hva, hvk⟩ := ReadsL.heads Hhr.out
  obtain ⟨vs', hvl', hv1', hva', hvk'⟩ := ReadsL.heads Hhq.out
  have HMS := Lib.hid (show 1 ≤ ls.length ∧ 1 ≤ ms.length ∧ ls.length ≤ 6 ∧ ms.length ≤ 6 from ⟨(net_len h0).1, (net_len h1).1, (net_len h0).2, (net_len h1).2⟩)
  obtain ⟨l, hl⟩ : ∃ l, l = ls.getD (ls.length - 1) [] := ⟨_, rfl⟩
  have hl4 : l.length ≤ 4 := by have := net_lay h0 (ls.length - 1) (by have := net_len h0; omega); rw [← hl] at this; exact this.2
  have HLST := Lib.hid hl.symm
  rw [← hl] at hlast
  clear hl
  have g3 : (n' != (l.length : Int)) = false := by rw [hlast]; simp
  have hVL := Lib.hid (And.intro hvl hvl')
  clear h0 h1 hlast hle hvl hvl'
  go_enter Try.func51, Try.ntmps51
  obtain ⟨wb1, hw1⟩ : ∃ wb1 : World, wb1 = w.alloc (.cells #[.int .i64 n, .slice a ls.length c] 65) := ⟨_, rfl⟩
  obtain ⟨wb2, hw2⟩ : ∃ wb2 : World, wb2 = wb1.alloc (.cells #[.int .i64 n', .slice a' ms.length c'] 65) := ⟨_, rfl⟩
  obtain ⟨wb3, hw3⟩ : ∃ wb3 : World, wb3 = wb2.alloc (.cells #[.int .i64 0, .slice none 0 0] 65) := ⟨_, rfl⟩
  have z1 : wb1.heap.size = w.heap.size + 1 := by rw [hw1]; simp
  have z2 : wb2.heap.size = w.heap.size + 2 := by rw [hw2]; simp; omega
  have z3 : wb3.heap.size = w.heap.size + 3 := by rw [hw3]; simp; omega
  have x0_0 := (by rw [hw3]; exact cell_old _ (by rw [hw2]; exact cell_old _ (by rw [hw1]; exact cell_new _ _ _ rfl rfl : wb1.cell? ⟨w.heap.size, 0, none⟩ = some (.int .i64 n)) : wb2.cell? ⟨w.heap.size, 0, none⟩ = some (.int .i64 n)) : wb3.cell? ⟨w.heap.size, 0, none⟩ = some (.int .i64 n))
  have x0_1 := (by rw [hw3]; exact cell_old _ (by rw [hw2]; exact cell_old _ (by rw [hw1]; exact cell_new _ _ _ rfl rfl : wb1.cell? ⟨w.heap.size, 1, none⟩ = some (.slice a ls.length c)) : wb2.cell? ⟨w.heap.size, 1, none⟩ = some (.slice a ls.length c)) : wb3.cell? ⟨w.heap.size, 1, none⟩ = some (.slice a ls.length c))
  have x1_0 := (by rw [hw3]; exact cell_old _ (by rw [hw2]; exact cell_new _ _ _ z1.symm rfl : wb2.cell? ⟨w.heap.size + 1, 0, none⟩ = some (.int .i64 n')) : wb3.cell? ⟨w.heap.size + 1, 0, none⟩ = some (.int .i64 n'))
  have x1_1 := (by rw [hw3]; exact cell_old _ (by rw [hw2]; exact cell_new _ _ _ z1.symm rfl : wb2.cell? ⟨w.heap.size + 1, 1, none⟩ = some (.slice a' ms.length c')) : wb3.cell? ⟨w.heap.size + 1, 1, none⟩ = some (.slice a' ms.length c'))
  have x2_0 := (by rw [hw3]; exact cell_new _ _ _ z2.symm rfl : wb3.cell? ⟨w.heap.size + 2, 0, none⟩ = some (.int .i64 0))
  have x2_1 := (by rw [hw3]; exact cell_new _ _ _ z2.symm rfl : wb3.cell? ⟨w.heap.size + 2, 1, none⟩ = some (.slice none 0 0))
  have HB0 := Lib.hid (show Below w.heap.size w wb3 by rw [hw3]; exact (show Below w.heap.size w wb2 by rw [hw2]; exact (show Below w.heap.size w wb1 by rw [hw1]; exact (Below.refl w.heap.size w).alloc (Nat.le_refl _) _).alloc (by omega) _).alloc (by omega) _)
  have s3 : w.heap.size + 3 ≤ wb3.heap.size := by omega
  have f2_0 := (by rw [hw3]; exact fro_new _ _ _ z2.symm : wb3.frozen? ⟨w.heap.size + 2, 0, none⟩ = false)
  have f2_1 := (by rw [hw3]; exact fro_new _ _ _ z2.symm : wb3.frozen? ⟨w.heap.size + 2, 1, none⟩ = false)
  have HZ3 := Lib.hid z3
  clear z1 z2 z3
  go_wp2_with fail
  rw [← hw1, ← hw2, ← hw3]
  clear hw1 hw2 hw3
  have HG := Lib.hid (show ∀ wa : World, Below wb3.heap.size wb3 wa → Calls Try.prog 108 #[.agg #[.int .i64 n, .slice a ls.length c]] wa (RetB true wa) from fun wa hb => impl_net _ ls c n wa ((Hhr.out.below HB0.out).below hb) hn Hhm.out true HN0)
  have HH := Lib.hid (show ∀ wa : World, Below wb3.heap.size wb3 wa → Calls Try.prog 108 #[.agg #[.int .i64 n', .slice a' ms.length c']] wa (RetB true wa) from fun wa hb => impl_net a' ms c' n' wa ((Hhq.out.below HB0.out).below hb) hk Hhp.out true HN1)
  have HLS := Lib.hid (fun (wa : World) (hb : Below wb3.heap.size wb3 wa) => last_any a ls c n wa ((Hhr.out.below HB0.out).below hb) hn)
  refine wp_region_noPanic ?_
  refine wp_region_held_drew (S := fun w' => w'.cell? ⟨w.heap.size, 0, none⟩ = some (.int .i64 n) ∧ w'.cell? ⟨w.heap.size, 1, none⟩ = some (.slice a ls.length c) ∧ w'.cell? ⟨w.heap.size + 1, 0, none⟩ = some (.int .i64 n') ∧ w'.cell? ⟨w.heap.size + 1, 1, none⟩ = some (.slice a' ms.length c')) (by kernel_rfl) ?_ (fun hHeld => ?_)
  · exact ⟨x0_0, x0_1, x1_0, x1_1⟩
  refine wpAnyH_take (i := 0) (v := ?_) rfl (by kernel_rfl) (by kernel_rfl) (by kernel_rfl) (fun _ _ _ h => h) (Or.inl ⟨by rfl, ?_⟩) (by assumption) ?_
  rotate_left
  · intro w9 hSw; (try dsimp only at hSw); go_simp; try with_reducible rfl
  try simp only [List.getElem_toArray, List.getElem_cons_succ, List.getElem_cons_zero, Act.put, List.setIfInBounds_toArray, List.set_cons_zero, List.set_cons_succ]
  refine wpAnyH_ready (rs := [1]) (by kernel_rfl) (by simp) ?_
  refine AllReadyH.cons rfl (fun K hK => ?_) AllReadyH.nil
  clear hHeld
  go_simp
  refine (HG.out _ (Below.refl _ _).drew).mono ?_
  rintro e' v1 ⟨rfl, hb⟩
  have HCv1 := Lib.hid ((Below.refl wb3.heap.size wb3).drew.trans hb)
  have sv1 := HCv1.out.size
  clear hb
  have mv1_0 := cell_below HCv1.out x0_0 (by omega)
  have mv1_1 := cell_below HCv1.out x0_1 (by omega)
  have mv1_2 := cell_below HCv1.out x1_0 (by omega)
  have mv1_3 := cell_below HCv1.out x1_1 (by omega)
  refine hK.out _ _ ?_ (fun hHeld => ?_)
  · exact ⟨mv1_0, mv1_1, mv1_2, mv1_3⟩
  clear hK K
  try simp only [List.getElem_toArray, List.getElem_cons_succ, List.getElem_cons_zero, Act.put, List.setIfInBounds_toArray, List.set_cons_zero, List.set_cons_succ]
  refine wpAnyH_take (i := 2) (v := ?_) rfl (by kernel_rfl) (by kernel_rfl) (by kernel_rfl) (fun _ _ _ h => h) (Or.inl ⟨by rfl, ?_⟩) (by assumption) ?_
  rotate_left
  · intro w9 hSw; (try dsimp only at hSw); go_simp; try with_reducible rfl
  try simp only [List.getElem_toArray, List.getElem_cons_succ, List.getElem_cons_zero, Act.put, List.setIfInBounds_toArray, List.set_cons_zero, List.set_cons_succ]
  refine wpAnyH_take (i := 3) (v := ?_) rfl (by kernel_rfl) (by kernel_rfl) (by kernel_rfl) (fun _ _ _ h => h) (Or.inl ⟨by rfl, ?_⟩) (by assumption) ?_
  rotate_left
  · intro w9 hSw; (try dsimp only at hSw); go_simp; try with_reducible rfl
  try simp only [List.getElem_toArray, List.getElem_cons_succ, List.getElem_cons_zero, Act.put, List.setIfInBounds_toArray, List.set_cons_zero, List.set_cons_succ]
  refine wpAnyH_take (i := 4) (v := ?_) rfl (by kernel_rfl) (by kernel_rfl) (by kernel_rfl) (fun _ _ _ h => h) (Or.inl ⟨by rfl, ?_⟩) (by assumption) ?_
  rotate_left
  · intro w9 hSw; (try dsimp only at hSw); go_simp; try with_reducible rfl
  try simp only [List.getElem_toArray, List.getElem_cons_succ, List.getElem_cons_zero, Act.put, List.setIfInBounds_toArray, List.set_cons_zero, List.set_cons_succ]
  refine wpAnyH_ready (rs := [5]) (by kernel_rfl) (by simp) ?_
  refine AllReadyH.cons rfl (fun K hK => ?_) AllReadyH.nil
  clear hHeld
  go_simp
  refine (HH.out _ HCv1.out).mono ?_
  rintro e' v2 ⟨rfl, hb⟩
  have HCv2 := Lib.hid (HCv1.out.trans (hb.mono HCv1.out.size))
  have sv2 := HCv2.out.size
  clear hb
  have mv2_0 := cell_below HCv2.out x0_0 (by omega)
  have mv2_1 := cell_below HCv2.out x0_1 (by omega)
  have mv2_2 := cell_below HCv2.out x1_0 (by omega)
  have mv2_3 := cell_below HCv2.out x1_1 (by omega)
  refine hK.out _ _ ?_ (fun hHeld => ?_)
  · exact ⟨mv2_0, mv2_1, mv2_2, mv2_3⟩
  clear hK K
  try simp only [List.getElem_toArray, List.getElem_cons_succ, List.getElem_cons_zero, Act.put, List.setIfInBounds_toArray, List.set_cons_zero, List.set_cons_succ]
  refine wpAnyH_take (i := 6) (v := ?_) rfl (by kernel_rfl) (by kernel_rfl) (by kernel_rfl) (fun _ _ _ h => h) (Or.inl ⟨by rfl, ?_⟩) (by assumption) ?_
  rotate_left
  · intro w9 hSw; (try dsimp only at hSw); go_simp; try with_reducible rfl
  try simp only [List.getElem_toArray, List.getElem_cons_succ, List.getElem_cons_zero, Act.put, List.setIfInBounds_toArray, List.set_cons_zero, List.set_cons_succ]
  refine wpAnyH_take (i := 7) (v := ?_) rfl (by kernel_rfl) (by kernel_rfl) (by kernel_rfl) (fun _ _ _ h => h) (Or.inl ⟨by rfl, ?_⟩) (by assumption) ?_
  rotate_left
  · intro w9 hSw; (try dsimp only at hSw); go_simp; try with_reducible rfl
  try simp only [List.getElem_toArray, List.getElem_cons_succ, List.getElem_cons_zero, Act.put, List.setIfInBounds_toArray, List.set_cons_zero, List.set_cons_succ]
  refine wpAnyH_take (i := 8) (v := ?_) rfl (by kernel_rfl) (by kernel_rfl) (by kernel_rfl) (fun _ _ _ h => h) (Or.inl ⟨by rfl, ?_⟩) (by assumption) ?_
  rotate_left
  · intro w9 hSw; (try dsimp only at hSw); go_simp; try with_reducible rfl
  try simp only [List.getElem_toArray, List.getElem_cons_succ, List.getElem_cons_zero, Act.put, List.setIfInBounds_toArray, List.set_cons_zero, List.set_cons_succ]
  refine wpAnyH_take (i := 9) (v := ?_) rfl (by kernel_rfl) (by kernel_rfl) (by kernel_rfl) (fun _ _ _ h => h) (Or.inl ⟨by rfl, ?_⟩) (by assumption) ?_
  rotate_left
  · intro w9 hSw; (try dsimp only at hSw); go_simp; try with_reducible rfl
  try simp only [List.getElem_toArray, List.getElem_cons_succ, List.getElem_cons_zero, Act.put, List.setIfInBounds_toArray, List.set_cons_zero, List.set_cons_succ]
  refine wpAnyH_take (i := 10) (v := ?_) rfl (by kernel_rfl) (by kernel_rfl) (by kernel_rfl) (fun _ _ _ h => h) (Or.inl ⟨by rfl, ?_⟩) (by assumption) ?_
  rotate_left
  · intro w9 hSw; (try dsimp only at hSw); go_simp; try with_reducible rfl
  try simp only [List.getElem_toArray, List.getElem_cons_succ, List.getElem_cons_zero, Act.put, List.setIfInBounds_toArray, List.set_cons_zero, List.set_cons_succ]
  refine wpAnyH_take (i := 11) (v := ?_) rfl (by kernel_rfl) (by kernel_rfl) (by kernel_rfl) (fun _ _ _ h => h) (Or.inl ⟨by rfl, ?_⟩) (by assumption) ?_
  rotate_left
  · intro w9 hSw; (try dsimp only at hSw); go_simp; try with_reducible rfl
  try simp only [List.getElem_toArray, List.getElem_cons_succ, List.getElem_cons_zero, Act.put, List.setIfInBounds_toArray, List.set_cons_zero, List.set_cons_succ]
  refine wpAnyH_ready (rs := [12]) (by kernel_rfl) (by simp) ?_
  refine AllReadyH.cons rfl (fun K hK => ?_) AllReadyH.nil
  clear hHeld
  go_simp
  refine (HLS.out _ HCv2.out).mono ?_
  rintro e' v3 ⟨p9, rfl, hst9, hb⟩
  obtain ⟨r9, hr9⟩ := rev_last ls HMS.out.1
  rw [hr9, HLST.out] at hst9
  obtain ⟨gS, qS, aS, cS, rfl, hgS, _, hS1, _, _⟩ := hst9
  have HCv3 := Lib.hid (HCv2.out.trans (hb.mono HCv2.out.size))
  have sv3 := HCv3.out.size
  clear hb
  have mv3_0 := cell_below HCv3.out x0_0 (by omega)
  have mv3_1 := cell_below HCv3.out x0_1 (by omega)
  have mv3_2 := cell_below HCv3.out x1_0 (by omega)
  have mv3_3 := cell_below HCv3.out x1_1 (by omega)
  refine hK.out _ _ ?_ (fun hHeld => ?_)
  · exact ⟨mv3_0, mv3_1, mv3_2, mv3_3⟩
  clear hK K
  try simp only [List.getElem_toArray, List.getElem_cons_succ, List.getElem_cons_zero, Act.put, List.setIfInBounds_toArray, List.set_cons_zero, List.set_cons_succ]
  refine wpAnyH_take (i := 13) (v := ?_) rfl (by kernel_rfl) (by kernel_rfl) (by kernel_rfl) (fun _ _ _ h => h) (Or.inl ⟨by rfl, ?_⟩) (by assumption) ?_
  rotate_left
  · intro w9 hSw; (try dsimp only at hSw); go_simp; try with_reducible rfl
  try simp only [List.getElem_toArray, List.getElem_cons_succ, List.getElem_cons_zero, Act.put, List.setIfInBounds_toArray, List.set_cons_zero, List.set_cons_succ]
  refine wpAnyH_take (i := 14) (v := ?_) rfl (by kernel_rfl) (by kernel_rfl) (by kernel_rfl) (fun _ _ _ h => h) (Or.inl ⟨by rfl, ?_⟩) (by assumption) ?_
  rotate_left
  · intro w9 hSw; (try dsimp only at hSw); go_simp; try with_reducible rfl
  try simp only [List.getElem_toArray, List.getElem_cons_succ, List.getElem_cons_zero, Act.put, List.setIfInBounds_toArray, List.set_cons_zero, List.set_cons_succ]
  refine wpAnyH_ready (rs := [15]) (by kernel_rfl) (by simp) ?_
  refine AllReadyH.cons rfl (fun K hK => ?_) AllReadyH.nil
  clear hHeld
  go_simp
  refine hK.out _ _ ?_ (fun hHeld => ?_)
  · exact ⟨mv3_0, mv3_1, mv3_2, mv3_3⟩
  clear hK K
  try simp only [List.getElem_toArray, List.getElem_cons_succ, List.getElem_cons_zero, Act.put, List.setIfInBounds_toArray, List.set_cons_zero, List.set_cons_succ]
  refine wpAnyH_take (i := 16) (v := ?_) rfl (by kernel_rfl) (by kernel_rfl) (by kernel_rfl) (fun _ _ _ h => h) (Or.inl ⟨by rfl, ?_⟩) (by assumption) ?_
  rotate_left
  · intro w9 hSw; (try dsimp only at hSw); go_simp; try with_reducible rfl
  try simp only [List.getElem_toArray, List.getElem_cons_succ, List.getElem_cons_zero, Act.put, List.setIfInBounds_toArray, List.set_cons_zero, List.set_cons_succ]
  refine wpAnyH_take (i := 17) (v := ?_) rfl (by kernel_rfl) (by kernel_rfl) (by kernel_rfl) (fun _ _ _ h => h) (Or.inl ⟨by rfl, ?_⟩) (by assumption) ?_
  rotate_left
  · intro w9 hSw; (try dsimp only at hSw); go_simp; try with_reducible rfl
  try simp only [List.getElem_toArray, List.getElem_cons_succ, List.getElem_cons_zero, Act.put, List.setIfInBounds_toArray, List.set_cons_zero, List.set_cons_succ]
  refine wpAnyH_take (i := 18) (v := ?_) rfl (by kernel_rfl) (by kernel_rfl) (by kernel_rfl) (fun _ _ _ h => h) (Or.inl ⟨by rfl, ?_⟩) (by assumption) ?_
  rotate_left
  · intro w9 hSw; (try dsimp only at hSw); go_simp; try with_reducible rfl
  try simp only [List.getElem_toArray, List.getElem_cons_succ, List.getElem_cons_zero, Act.put, List.setIfInBounds_toArray, List.set_cons_zero, List.set_cons_succ]
  refine wpAnyH_done (by kernel_rfl) ?_ _
  refine NoPanic.normal ?_
  replace x2_0 := cell_below HCv3.out x2_0 (by omega)
  replace x2_1 := cell_below HCv3.out x2_1 (by omega)
  replace f2_0 := fro_below HCv3.out f2_0 (by omega)
  replace f2_1 := fro_below HCv3.out f2_1 (by omega)
  have HBn := Lib.hid (HB0.out.trans (HCv3.out.mono (by omega)))
  replace x0_0 := cell_below HCv3.out x0_0 (by omega)
  replace x0_1 := cell_below HCv3.out x0_1 (by omega)
  replace x1_0 := cell_below HCv3.out x1_0 (by omega)
  replace x1_1 := cell_below HCv3.out x1_1 (by omega)
  have hw3 : w.heap.size + 2 < v3.heap.size := by omega
  go_wp2_with fail
  obtain ⟨hvl, hvl'⟩ := hVL.out
  refine wp_region_noPanic ?_
  refine wp_region_held_drew (S := fun w' => w'.cell? ⟨w.heap.size, 0, none⟩ = some (.int .i64 n) ∧ w'.cell? ⟨w.heap.size, 1, none⟩ = some (.slice a ls.length c) ∧ w'.cell? ⟨w.heap.size + 1, 0, none⟩ = some (.int .i64 n') ∧ w'.cell? ⟨w.heap.size + 1, 1, none⟩ = some (.slice a' ms.length c')) (by kernel_rfl) ?_ (fun hHeld => ?_)
  · exact ⟨x0_0, x0_1, x1_0, x1_1⟩
  have hb9 : Below v3.heap.size v3 v3.drew := (Below.refl _ _).drew
  have HD0 := Lib.hid hb9
  clear hb9
  generalize v3.drew = u0 at *
  refine wpAnyH_take (i := 0) (v := ?_) rfl (by kernel_rfl) (by kernel_rfl) (by kernel_rfl) (fun _ _ _ h => h) (Or.inl ⟨by rfl, ?_⟩) (by assumption) ?_
  rotate_left
  · intro w9 hSw; (try dsimp only at hSw); go_simp; try with_reducible rfl
  try simp only [List.getElem_toArray, List.getElem_cons_succ, List.getElem_cons_zero, Act.put, List.setIfInBounds_toArray, List.set_cons_zero, List.set_cons_succ]
  refine wpAnyH_take (i := 1) (v := ?_) rfl (by kernel_rfl) (by kernel_rfl) (by kernel_rfl) (fun _ _ _ h => h) (Or.inl ⟨by rfl, ?_⟩) (by assumption) ?_
  rotate_left
  · intro w9 hSw; (try dsimp only at hSw); go_simp; try with_reducible rfl
  try simp only [List.getElem_toArray, List.getElem_cons_succ, List.getElem_cons_zero, Act.put, List.setIfInBounds_toArray, List.set_cons_zero, List.set_cons_succ]
  refine wpAnyH_take (i := 2) (v := ?_) rfl (by kernel_rfl) (by kernel_rfl) (by kernel_rfl) (fun _ _ _ h => h) (Or.inl ⟨by rfl, ?_⟩) (by assumption) ?_
  rotate_left
  · intro w9 hSw; (try dsimp only at hSw); go_simp; try with_reducible rfl
  try simp only [List.getElem_toArray, List.getElem_cons_succ, List.getElem_cons_zero, Act.put, List.setIfInBounds_toArray, List.set_cons_zero, List.set_cons_succ]
  refine wpAnyH_take (i := 3) (v := ?_) rfl (by kernel_rfl) (by kernel_rfl) (by kernel_rfl) (fun _ _ _ h => h) (Or.inl ⟨by rfl, ?_⟩) (by assumption) ?_
  rotate_left
  · intro w9 hSw; (try dsimp only at hSw); go_simp; try with_reducible rfl
  try simp only [List.getElem_toArray, List.getElem_cons_succ, List.getElem_cons_zero, Act.put, List.setIfInBounds_toArray, List.set_cons_zero, List.set_cons_succ]
  refine wpAnyH_take (i := 4) (v := ?_) rfl (by kernel_rfl) (by kernel_rfl) (by kernel_rfl) (fun _ _ _ h => h) (Or.inl ⟨by rfl, ?_⟩) (by assumption) ?_
  rotate_left
  · intro w9 hSw; (try dsimp only at hSw); go_simp; try with_reducible rfl
  try simp only [List.getElem_toArray, List.getElem_cons_succ, List.getElem_cons_zero, Act.put, List.setIfInBounds_toArray, List.set_cons_zero, List.set_cons_succ]
  refine wpAnyH_take (i := 5) (v := ?_) rfl (by kernel_rfl) (by kernel_rfl) (by kernel_rfl) (fun _ _ _ h => h) (Or.inl ⟨by rfl, ?_⟩) (by assumption) ?_
  rotate_left
  · intro w9 hSw; (try dsimp only at hSw); go_simp; try with_reducible rfl
  try simp only [List.getElem_toArray, List.getElem_cons_succ, List.getElem_cons_zero, Act.put, List.setIfInBounds_toArray, List.set_cons_zero, List.set_cons_succ]
  refine wpAnyH_ready (rs := [6]) (by kernel_rfl) (by simp) ?_
  refine AllReadyH.cons rfl (fun K hK => ?_) AllReadyH.nil
  clear hHeld
  go_simp
  have hb := below_alloc u0 (.cells #[.slice a ls.length c, .slice a' ms.length c'] 63)
  have c50 : (u0.alloc (.cells #[.slice a ls.length c, .slice a' ms.length c'] 63)).cell? ⟨u0.heap.size, 0, none⟩ = some (.slice a ls.length c) := cell_new _ _ _ rfl rfl
  have c51 : (u0.alloc (.cells #[.slice a ls.length c, .slice a' ms.length c'] 63)).cell? ⟨u0.heap.size, 1, none⟩ = some (.slice a' ms.length c') := cell_new _ _ _ rfl rfl
  have hlt5 := size_alloc' u0 (.cells #[.slice a ls.length c, .slice a' ms.length c'] 63)
  obtain ⟨B5, hB5⟩ : ∃ B5 : Nat, B5 = u0.heap.size := ⟨_, rfl⟩
  rw [← hB5] at c50 c51 hlt5 ⊢
  have HD1 := Lib.hid (HD0.out.trans (hb.mono HD0.out.size))
  generalize hwn : u0.alloc (.cells #[.slice a ls.length c, .slice a' ms.length c'] 63) = u1 at *
  clear hwn hB5 hb
  have su1 := HD1.out.size
  have mu1_0 := cell_below HD1.out x0_0 (by omega)
  have mu1_1 := cell_below HD1.out x0_1 (by omega)
  have mu1_2 := cell_below HD1.out x1_0 (by omega)
  have mu1_3 := cell_below HD1.out x1_1 (by omega)
  refine hK.out _ _ ?_ (fun hHeld => ?_)
  · exact ⟨mu1_0, mu1_1, mu1_2, mu1_3⟩
  clear hK K
  try simp only [List.getElem_toArray, List.getElem_cons_succ, List.getElem_cons_zero, Act.put, List.setIfInBounds_toArray, List.set_cons_zero, List.set_cons_succ]
  refine wpAnyH_ready (rs := [7]) (by kernel_rfl) (by simp) ?_
  refine AllReadyH.cons rfl (fun K hK => ?_) AllReadyH.nil
  clear hHeld
  go_simp
  have hcc := concatR B5 2 a vs c a' vs' c' u1 (CellsAt.below hva (HBn.out.trans (HD1.out.mono HBn.out.size))) (CellsAt.below hva' (HBn.out.trans (HD1.out.mono HBn.out.size))) hv1 hv1' (by omega) (by omega) (by rw [hvl]; exact c50) (by rw [hvl']; exact c51) hlt5
  refine hcc.mono ?_
  rintro e' u2 ⟨v7, rfl, ho7, hb⟩
  obtain ⟨g7, c7, rfl, _, _⟩ := ho7.form (by rw [List.length_append]; have := HMS.out; omega)
  have HD2 := Lib.hid (HD1.out.trans (hb.mono HD1.out.size))
  have HBu := Lib.hid (HBn.out.trans (HD2.out.mono HBn.out.size))
  have hrj := reads_join ho7 hvl hvl' (fun k hk => by obtain ⟨p, cc, e1, e2, e3⟩ := hvk k hk; exact ⟨p, cc, e1, e2, e3.below HBu.out⟩) (fun k hk => by obtain ⟨p, cc, e1, e2, e3⟩ := hvk' k hk; exact ⟨p, cc, e1, e2, e3.below HBu.out⟩)
  rw [← HJE.out] at hrj
  have HRJ := Lib.hid hrj
  have hll7 : (vs ++ vs').length = J.length := by rw [HJL.out, List.length_append, hvl, hvl']
  rw [hll7]
  clear hb ho7 hcc hrj
  have su2 := HD2.out.size
  have mu2_0 := cell_below HD2.out x0_0 (by omega)
  have mu2_1 := cell_below HD2.out x0_1 (by omega)
  have mu2_2 := cell_below HD2.out x1_0 (by omega)
  have mu2_3 := cell_below HD2.out x1_1 (by omega)
  refine hK.out _ _ ?_ (fun hHeld => ?_)
  · exact ⟨mu2_0, mu2_1, mu2_2, mu2_3⟩
  clear hK K
  try simp only [List.getElem_toArray, List.getElem_cons_succ, List.getElem_cons_zero, Act.put, List.setIfInBounds_toArray, List.set_cons_zero, List.set_cons_succ]
  refine wpAnyH_ready (rs := [8]) (by kernel_rfl) (by simp) ?_
  refine AllReadyH.cons rfl (fun K hK => ?_) AllReadyH.nil
  clear hHeld
  go_simp
  refine (negi.impl_copies (some ⟨g7, 0, none⟩) J c7 u2 HRJ.out (by have := HJL.out; have := HMS.out; omega) HCB.out).mono ?_
  rintro e' u3 ⟨pv, qv, vs9, css9, rfl, hol, hb⟩
  have HD3 := Lib.hid (HD2.out.trans (hb.mono HD2.out.size))
  have HOL := Lib.hid hol
  clear hb hol
  have su3 := HD3.out.size
  have mu3_0 := cell_below HD3.out x0_0 (by omega)
  have mu3_1 := cell_below HD3.out x0_1 (by omega)
  have mu3_2 := cell_below HD3.out x1_0 (by omega)
  have mu3_3 := cell_below HD3.out x1_1 (by omega)
  refine hK.out _ _ ?_ (fun hHeld => ?_)
  · exact ⟨mu3_0, mu3_1, mu3_2, mu3_3⟩
  clear hK K
  try simp only [List.getElem_toArray, List.getElem_cons_succ, List.getElem_cons_zero, Act.put, List.setIfInBounds_toArray, List.set_cons_zero, List.set_cons_succ]
  refine wpAnyH_take (i := 9) (v := ?_) rfl (by kernel_rfl) (by kernel_rfl) (by kernel_rfl) (fun _ _ _ h => h) (Or.inl ⟨by rfl, ?_⟩) (by assumption) ?_
  rotate_left
  · intro w9 hSw; (try dsimp only at hSw); go_simp; try with_reducible rfl
  try simp only [List.getElem_toArray, List.getElem_cons_succ, List.getElem_cons_zero, Act.put, List.setIfInBounds_toArray, List.set_cons_zero, List.set_cons_succ]
  refine wpAnyH_ready (rs := [10]) (by kernel_rfl) (by simp) ?_
  refine AllReadyH.cons rfl (fun K hK => ?_) AllReadyH.nil
  clear hHeld
  go_simp
  refine (chk_yes pv J qv n u3 (show OwnL _ _ _ _ _ from ⟨vs9, css9, HOL.out⟩).reads (by have := HJL.out; have := HMS.out; omega) HJM.out HJB.out).mono ?_
  rintro e' u4 ⟨rfl, hb⟩
  have HD4 := Lib.hid (HD3.out.trans (hb.mono HD3.out.size))
  have HO4 := Lib.hid (show OwnL u2.heap.size u4.heap.size u4 (.slice pv J.length qv) J from (OwnL.below ⟨vs9, css9, HOL.out⟩ hb).mono (Nat.le_refl _) hb.size)
  clear hb
  have su4 := HD4.out.size
  have y20 := cell_below HD4.out x2_0 (by omega)
  have y21 := cell_below HD4.out x2_1 (by omega)
  have g20 := fro_below HD4.out f2_0 (by omega)
  have g21 := fro_below HD4.out f2_1 (by omega)
  have mu4_0 := cell_below HD4.out x0_0 (by omega)
  have mu4_1 := cell_below HD4.out x0_1 (by omega)
  have mu4_2 := cell_below HD4.out x1_0 (by omega)
  have mu4_3 := cell_below HD4.out x1_1 (by omega)
  refine hK.out _ _ ?_ (fun hHeld => ?_)
  · exact ⟨mu4_0, mu4_1, mu4_2, mu4_3⟩
  clear hK K
  try simp only [List.getElem_toArray, List.getElem_cons_succ, List.getElem_cons_zero, Act.put, List.setIfInBounds_toArray, List.set_cons_zero, List.set_cons_succ]
  refine wpAnyH_take (i := 11) (v := ?_) rfl (by kernel_rfl) (by kernel_rfl) (by kernel_rfl) (fun _ _ _ h => h) (Or.inl ⟨by rfl, ?_⟩) (by assumption) ?_
  rotate_left
  · intro w9 hSw; (try dsimp only at hSw); go_simp; try with_reducible rfl
  try simp only [List.getElem_toArray, List.getElem_cons_succ, List.getElem_cons_zero, Act.put, List.setIfInBounds_toArray, List.set_cons_zero, List.set_cons_succ]
  refine wpAnyH_take (i := 12) (v := ?_) rfl (by kernel_rfl) (by kernel_rfl) (by kernel_rfl) (fun _ _ _ h => h) (Or.inl ⟨by rfl, ?_⟩) (by assumption) ?_
  rotate_left
  · intro w9 hSw; (try dsimp only at hSw); go_simp; try with_reducible rfl
  try simp only [List.getElem_toArray, List.getElem_cons_succ, List.getElem_cons_zero, Act.put, List.setIfInBounds_toArray, List.set_cons_zero, List.set_cons_succ]
  refine wpAnyH_ready (rs := [13]) (by kernel_rfl) (by simp) ?_
  refine AllReadyH.cons rfl (fun K hK => ?_) AllReadyH.nil
  clear hHeld
  go_simp
  refine hK.out _ _ ?_ (fun hHeld => ?_)
  · exact ⟨cell_set2 (cell_set2 mu4_0 (by omega) _) (by omega) _, cell_set2 (cell_set2 mu4_1 (by omega) _) (by omega) _, cell_set2 (cell_set2 mu4_2 (by omega) _) (by omega) _, cell_set2 (cell_set2 mu4_3 (by omega) _) (by omega) _⟩
  clear hK K
  try simp only [List.getElem_toArray, List.getElem_cons_succ, List.getElem_cons_zero, Act.put, List.setIfInBounds_toArray, List.set_cons_zero, List.set_cons_succ]
  refine wpAnyH_take (i := 14) (v := ?_) rfl (by kernel_rfl) (by kernel_rfl) (by kernel_rfl) (fun _ _ _ h => h) (Or.inl ⟨by rfl, ?_⟩) (by assumption) ?_
  rotate_left
  · intro w9 hSw; (try dsimp only at hSw); go_simp; try with_reducible rfl
  try simp only [List.getElem_toArray, List.getElem_cons_succ, List.getElem_cons_zero, Act.put, List.setIfInBounds_toArray, List.set_cons_zero, List.set_cons_succ]
  refine wpAnyH_done (by kernel_rfl) ?_ _
  refine NoPanic.normal ?_
  have HBR := Lib.hid (HBn.out.trans (HD4.out.mono HBn.out.size))
  go_wp2_with fail
  refine bodyPost_ret (v := .tuple #[.agg #[.int .i64 n, .slice pv J.length qv], .bool true]) (by simp [results, Try.results51, go_sem, y20, y21, g20, g21]) rfl (HPO.out _ _ ⟨_, rfl, ?_, ?_⟩)
  · simp only [size_set]; exact ((HO4.out.set (by show w.heap.size + 2 < _; omega) _).set (by show w.heap.size + 2 < _; omega) _).mono (by omega) (Nat.le_refl _)
  · exact (HBR.out.setCell (by simp; omega) _).setCell (by simp; omega) _
set_option maxRecDepth 100000 in
set_option maxHeartbeats 16000000 in
theorem impl_an_out (a : Option Addr) (ls : List (List (List Int × Int))) (c : Nat) (n : Int) (a' : Option Addr) (ms : List (List (List Int × Int))) (c' : Nat) (n' : Int) (w : World) (hr : ReadsL w a ls) (hq : ReadsL w a' ms) (hn : ls.length ≤ 1048576) (hk : ms.length ≤ 1048576) (hm : ∀ x ∈ ls, x.length ≤ 1048576 ∧ ∀ y ∈ x, y.1.length ≤ 1048576) (hp : ∀ x ∈ ms, x.length ≤ 1048576 ∧ ∀ y ∈ x, y.1.length ≤ 1048576) (h : netB n ls = true ∧ netB n' ms = true ∧ n' = ((ls.getD (ls.length - 1) []).length : Int) ∧ ¬ ls.length + ms.length ≤ 6) :
    Calls Try.prog 51 #[.agg #[.int .i64 n, .slice a ls.length c], .agg #[.int .i64 n', .slice a' ms.length c']] w (RetTB [] 0 false w) := by
  have Hhr := Lib.hid hr
  have Hhq := Lib.hid hq
  have Hhm := Lib.hid hm
  have Hhp := Lib.hid hp
  clear hr hq hm hp
  obtain ⟨h0, h1, hlast, hle⟩ := h
  have HN0 := Lib.hid h0
  have HN1 := Lib.hid h1
  have hjb := (show netB n (ls ++ ms) = false by rw [net_join h0 h1 hlast]; exact decide_eq_false hle)
  have hjm := (show ∀ x ∈ ls ++ ms, x.length ≤ 1048576 ∧ ∀ y ∈ x, y.1.length ≤ 1048576 from fun x hx => (List.mem_append.1 hx).elim (Hhm.out x) (Hhp.out x))
  have hcb := (show ∀ k, k < (ls ++ ms).length → ((ls ++ ms).getD k []).length ≤ 1000 ∧ ∀ j, j < ((ls ++ ms).getD k []).length → 1 ≤ (((ls ++ ms).getD k []).getD j ([], 0)).1.length ∧ (((ls ++ ms).getD k []).getD j ([], 0)).1.length ≤ 100 from fun k hk9 => by
    rw [List.length_append] at hk9
    by_cases e : k < ls.length
    · rw [getD_left ls ms [] k e]
      exact ⟨by have := net_lay h0 k e; omega, fun j hj => by
        have h8 := (gateB_iff _ _).1 (net_gate h0 k e j hj)
        have h9 := (planeB_iff _ _).1 h8.1
        omega⟩
    · rw [getD_right ls ms [] k (by omega)]
      exact ⟨by have := net_lay h1 (k - ls.length) (by omega); omega, fun j hj => by
        have h8 := (gateB_iff _ _).1 (net_gate h1 (k - ls.length) (by omega) j hj)
        have h9 := (planeB_iff _ _).1 h8.1
        omega⟩)
  obtain ⟨J, hJ⟩ : ∃ J, J = ls ++ ms := ⟨_, rfl⟩
  have HJL := Lib.hid (show J.length = ls.length + ms.length by rw [hJ, List.length_append])
  have HPO := Lib.hid (show ∀ (e' : Ending) (w' : World), RetTB J n true w e' w' → RetTB (ls ++ ms) n true w e' w' from by rw [hJ]; exact fun _ _ hh => hh)
  rw [← hJ] at hjb hjm hcb
  have HJB := Lib.hid hjb
  have HJM := Lib.hid hjm
  have HCB := Lib.hid hcb
  have HJE := Lib.hid hJ
  clear hjb hjm hcb hJ
  obtain ⟨vs, hvl, hv1, hva, hvk⟩ := ReadsL.heads Hhr.out
  obtain ⟨vs', hvl', hv1', hva', hvk'⟩ := ReadsL.heads Hhq.out
  have HMS := Lib.hid (show 1 ≤ ls.length ∧ 1 ≤ ms.length ∧ ls.length ≤ 6 ∧ ms.length ≤ 6 from ⟨(net_len h0).1, (net_len h1).1, (net_len h0).2, (net_len h1).2⟩)
  obtain ⟨l, hl⟩ : ∃ l, l = ls.getD (ls.length - 1) [] := ⟨_, rfl⟩
  have hl4 : l.length ≤ 4 := by have := net_lay h0 (ls.length - 1) (by have := net_len h0; omega); rw [← hl] at this; exact this.2
  have HLST := Lib.hid hl.symm
  rw [← hl] at hlast
  clear hl
  have g3 : (n' != (l.length : Int)) = false := by rw [hlast]; simp
  have hVL := Lib.hid (And.intro hvl hvl')
  clear h0 h1 hlast hle hvl hvl'
  go_enter Try.func51, Try.ntmps51
  obtain ⟨wb1, hw1⟩ : ∃ wb1 : World, wb1 = w.alloc (.cells #[.int .i64 n, .slice a ls.length c] 65) := ⟨_, rfl⟩
  obtain ⟨wb2, hw2⟩ : ∃ wb2 : World, wb2 = wb1.alloc (.cells #[.int .i64 n', .slice a' ms.length c'] 65) := ⟨_, rfl⟩
  obtain ⟨wb3, hw3⟩ : ∃ wb3 : World, wb3 = wb2.alloc (.cells #[.int .i64 0, .slice none 0 0] 65) := ⟨_, rfl⟩
  have z1 : wb1.heap.size = w.heap.size + 1 := by rw [hw1]; simp
  have z2 : wb2.heap.size = w.heap.size + 2 := by rw [hw2]; simp; omega
  have z3 : wb3.heap.size = w.heap.size + 3 := by rw [hw3]; simp; omega
  have x0_0 := (by rw [hw3]; exact cell_old _ (by rw [hw2]; exact cell_old _ (by rw [hw1]; exact cell_new _ _ _ rfl rfl : wb1.cell? ⟨w.heap.size, 0, none⟩ = some (.int .i64 n)) : wb2.cell? ⟨w.heap.size, 0, none⟩ = some (.int .i64 n)) : wb3.cell? ⟨w.heap.size, 0, none⟩ = some (.int .i64 n))
  have x0_1 := (by rw [hw3]; exact cell_old _ (by rw [hw2]; exact cell_old _ (by rw [hw1]; exact cell_new _ _ _ rfl rfl : wb1.cell? ⟨w.heap.size, 1, none⟩ = some (.slice a ls.length c)) : wb2.cell? ⟨w.heap.size, 1, none⟩ = some (.slice a ls.length c)) : wb3.cell? ⟨w.heap.size, 1, none⟩ = some (.slice a ls.length c))
  have x1_0 := (by rw [hw3]; exact cell_old _ (by rw [hw2]; exact cell_new _ _ _ z1.symm rfl : wb2.cell? ⟨w.heap.size + 1, 0, none⟩ = some (.int .i64 n')) : wb3.cell? ⟨w.heap.size + 1, 0, none⟩ = some (.int .i64 n'))
  have x1_1 := (by rw [hw3]; exact cell_old _ (by rw [hw2]; exact cell_new _ _ _ z1.symm rfl : wb2.cell? ⟨w.heap.size + 1, 1, none⟩ = some (.slice a' ms.length c')) : wb3.cell? ⟨w.heap.size + 1, 1, none⟩ = some (.slice a' ms.length c'))
  have x2_0 := (by rw [hw3]; exact cell_new _ _ _ z2.symm rfl : wb3.cell? ⟨w.heap.size + 2, 0, none⟩ = some (.int .i64 0))
  have x2_1 := (by rw [hw3]; exact cell_new _ _ _ z2.symm rfl : wb3.cell? ⟨w.heap.size + 2, 1, none⟩ = some (.slice none 0 0))
  have HB0 := Lib.hid (show Below w.heap.size w wb3 by rw [hw3]; exact (show Below w.heap.size w wb2 by rw [hw2]; exact (show Below w.heap.size w wb1 by rw [hw1]; exact (Below.refl w.heap.size w).alloc (Nat.le_refl _) _).alloc (by omega) _).alloc (by omega) _)
  have s3 : w.heap.size + 3 ≤ wb3.heap.size := by omega
  have f2_0 := (by rw [hw3]; exact fro_new _ _ _ z2.symm : wb3.frozen? ⟨w.heap.size + 2, 0, none⟩ = false)
  have f2_1 := (by rw [hw3]; exact fro_new _ _ _ z2.symm : wb3.frozen? ⟨w.heap.size + 2, 1, none⟩ = false)
  have HZ3 := Lib.hid z3
  clear z1 z2 z3
  go_wp2_with fail
  rw [← hw1, ← hw2, ← hw3]
  clear hw1 hw2 hw3
  have HG := Lib.hid (show ∀ wa : World, Below wb3.heap.size wb3 wa → Calls Try.prog 108 #[.agg #[.int .i64 n, .slice a ls.length c]] wa (RetB true wa) from fun wa hb => impl_net _ ls c n wa ((Hhr.out.below HB0.out).below hb) hn Hhm.out true HN0)
  have HH := Lib.hid (show ∀ wa : World, Below wb3.heap.size wb3 wa → Calls Try.prog 108 #[.agg #[.int .i64 n', .slice a' ms.length c']] wa (RetB true wa) from fun wa hb => impl_net a' ms c' n' wa ((Hhq.out.below HB0.out).below hb) hk Hhp.out true HN1)
  have HLS := Lib.hid (fun (wa : World) (hb : Below wb3.heap.size wb3 wa) => last_any a ls c n wa ((Hhr.out.below HB0.out).below hb) hn)
  refine wp_region_noPanic ?_
  refine wp_region_held_drew (S := fun w' => w'.cell? ⟨w.heap.size, 0, none⟩ = some (.int .i64 n) ∧ w'.cell? ⟨w.heap.size, 1, none⟩ = some (.slice a ls.length c) ∧ w'.cell? ⟨w.heap.size + 1, 0, none⟩ = some (.int .i64 n') ∧ w'.cell? ⟨w.heap.size + 1, 1, none⟩ = some (.slice a' ms.length c')) (by kernel_rfl) ?_ (fun hHeld => ?_)
  · exact ⟨x0_0, x0_1, x1_0, x1_1⟩
  refine wpAnyH_take (i := 0) (v := ?_) rfl (by kernel_rfl) (by kernel_rfl) (by kernel_rfl) (fun _ _ _ h => h) (Or.inl ⟨by rfl, ?_⟩) (by assumption) ?_
  rotate_left
  · intro w9 hSw; (try dsimp only at hSw); go_simp; try with_reducible rfl
  try simp only [List.getElem_toArray, List.getElem_cons_succ, List.getElem_cons_zero, Act.put, List.setIfInBounds_toArray, List.set_cons_zero, List.set_cons_succ]
  refine wpAnyH_ready (rs := [1]) (by kernel_rfl) (by simp) ?_
  refine AllReadyH.cons rfl (fun K hK => ?_) AllReadyH.nil
  clear hHeld
  go_simp
  refine (HG.out _ (Below.refl _ _).drew).mono ?_
  rintro e' v1 ⟨rfl, hb⟩
  have HCv1 := Lib.hid ((Below.refl wb3.heap.size wb3).drew.trans hb)
  have sv1 := HCv1.out.size
  clear hb
  have mv1_0 := cell_below HCv1.out x0_0 (by omega)
  have mv1_1 := cell_below HCv1.out x0_1 (by omega)
  have mv1_2 := cell_below HCv1.out x1_0 (by omega)
  have mv1_3 := cell_below HCv1.out x1_1 (by omega)
  refine hK.out _ _ ?_ (fun hHeld => ?_)
  · exact ⟨mv1_0, mv1_1, mv1_2, mv1_3⟩
  clear hK K
  try simp only [List.getElem_toArray, List.getElem_cons_succ, List.getElem_cons_zero, Act.put, List.setIfInBounds_toArray, List.set_cons_zero, List.set_cons_succ]
  refine wpAnyH_take (i := 2) (v := ?_) rfl (by kernel_rfl) (by kernel_rfl) (by kernel_rfl) (fun _ _ _ h => h) (Or.inl ⟨by rfl, ?_⟩) (by assumption) ?_
  rotate_left
  · intro w9 hSw; (try dsimp only at hSw); go_simp; try with_reducible rfl
  try simp only [List.getElem_toArray, List.getElem_cons_succ, List.getElem_cons_zero, Act.put, List.setIfInBounds_toArray, List.set_cons_zero, List.set_cons_succ]
  refine wpAnyH_take (i := 3) (v := ?_) rfl (by kernel_rfl) (by kernel_rfl) (by kernel_rfl) (fun _ _ _ h => h) (Or.inl ⟨by rfl, ?_⟩) (by assumption) ?_
  rotate_left
  · intro w9 hSw; (try dsimp only at hSw); go_simp; try with_reducible rfl
  try simp only [List.getElem_toArray, List.getElem_cons_succ, List.getElem_cons_zero, Act.put, List.setIfInBounds_toArray, List.set_cons_zero, List.set_cons_succ]
  refine wpAnyH_take (i := 4) (v := ?_) rfl (by kernel_rfl) (by kernel_rfl) (by kernel_rfl) (fun _ _ _ h => h) (Or.inl ⟨by rfl, ?_⟩) (by assumption) ?_
  rotate_left
  · intro w9 hSw; (try dsimp only at hSw); go_simp; try with_reducible rfl
  try simp only [List.getElem_toArray, List.getElem_cons_succ, List.getElem_cons_zero, Act.put, List.setIfInBounds_toArray, List.set_cons_zero, List.set_cons_succ]
  refine wpAnyH_ready (rs := [5]) (by kernel_rfl) (by simp) ?_
  refine AllReadyH.cons rfl (fun K hK => ?_) AllReadyH.nil
  clear hHeld
  go_simp
  refine (HH.out _ HCv1.out).mono ?_
  rintro e' v2 ⟨rfl, hb⟩
  have HCv2 := Lib.hid (HCv1.out.trans (hb.mono HCv1.out.size))
  have sv2 := HCv2.out.size
  clear hb
  have mv2_0 := cell_below HCv2.out x0_0 (by omega)
  have mv2_1 := cell_below HCv2.out x0_1 (by omega)
  have mv2_2 := cell_below HCv2.out x1_0 (by omega)
  have mv2_3 := cell_below HCv2.out x1_1 (by omega)
  refine hK.out _ _ ?_ (fun hHeld => ?_)
  · exact ⟨mv2_0, mv2_1, mv2_2, mv2_3⟩
  clear hK K
  try simp only [List.getElem_toArray, List.getElem_cons_succ, List.getElem_cons_zero, Act.put, List.setIfInBounds_toArray, List.set_cons_zero, List.set_cons_succ]
  refine wpAnyH_take (i := 6) (v := ?_) rfl (by kernel_rfl) (by kernel_rfl) (by kernel_rfl) (fun _ _ _ h => h) (Or.inl ⟨by rfl, ?_⟩) (by assumption) ?_
  rotate_left
  · intro w9 hSw; (try dsimp only at hSw); go_simp; try with_reducible rfl
  try simp only [List.getElem_toArray, List.getElem_cons_succ, List.getElem_cons_zero, Act.put, List.setIfInBounds_toArray, List.set_cons_zero, List.set_cons_succ]
  refine wpAnyH_take (i := 7) (v := ?_) rfl (by kernel_rfl) (by kernel_rfl) (by kernel_rfl) (fun _ _ _ h => h) (Or.inl ⟨by rfl, ?_⟩) (by assumption) ?_
  rotate_left
  · intro w9 hSw; (try dsimp only at hSw); go_simp; try with_reducible rfl
  try simp only [List.getElem_toArray, List.getElem_cons_succ, List.getElem_cons_zero, Act.put, List.setIfInBounds_toArray, List.set_cons_zero, List.set_cons_succ]
  refine wpAnyH_take (i := 8) (v := ?_) rfl (by kernel_rfl) (by kernel_rfl) (by kernel_rfl) (fun _ _ _ h => h) (Or.inl ⟨by rfl, ?_⟩) (by assumption) ?_
  rotate_left
  · intro w9 hSw; (try dsimp only at hSw); go_simp; try with_reducible rfl
  try simp only [List.getElem_toArray, List.getElem_cons_succ, List.getElem_cons_zero, Act.put, List.setIfInBounds_toArray, List.set_cons_zero, List.set_cons_succ]
  refine wpAnyH_take (i := 9) (v := ?_) rfl (by kernel_rfl) (by kernel_rfl) (by kernel_rfl) (fun _ _ _ h => h) (Or.inl ⟨by rfl, ?_⟩) (by assumption) ?_
  rotate_left
  · intro w9 hSw; (try dsimp only at hSw); go_simp; try with_reducible rfl
  try simp only [List.getElem_toArray, List.getElem_cons_succ, List.getElem_cons_zero, Act.put, List.setIfInBounds_toArray, List.set_cons_zero, List.set_cons_succ]
  refine wpAnyH_take (i := 10) (v := ?_) rfl (by kernel_rfl) (by kernel_rfl) (by kernel_rfl) (fun _ _ _ h => h) (Or.inl ⟨by rfl, ?_⟩) (by assumption) ?_
  rotate_left
  · intro w9 hSw; (try dsimp only at hSw); go_simp; try with_reducible rfl
  try simp only [List.getElem_toArray, List.getElem_cons_succ, List.getElem_cons_zero, Act.put, List.setIfInBounds_toArray, List.set_cons_zero, List.set_cons_succ]
  refine wpAnyH_take (i := 11) (v := ?_) rfl (by kernel_rfl) (by kernel_rfl) (by kernel_rfl) (fun _ _ _ h => h) (Or.inl ⟨by rfl, ?_⟩) (by assumption) ?_
  rotate_left
  · intro w9 hSw; (try dsimp only at hSw); go_simp; try with_reducible rfl
  try simp only [List.getElem_toArray, List.getElem_cons_succ, List.getElem_cons_zero, Act.put, List.setIfInBounds_toArray, List.set_cons_zero, List.set_cons_succ]
  refine wpAnyH_ready (rs := [12]) (by kernel_rfl) (by simp) ?_
  refine AllReadyH.cons rfl (fun K hK => ?_) AllReadyH.nil
  clear hHeld
  go_simp
  refine (HLS.out _ HCv2.out).mono ?_
  rintro e' v3 ⟨p9, rfl, hst9, hb⟩
  obtain ⟨r9, hr9⟩ := rev_last ls HMS.out.1
  rw [hr9, HLST.out] at hst9
  obtain ⟨gS, qS, aS, cS, rfl, hgS, _, hS1, _, _⟩ := hst9
  have HCv3 := Lib.hid (HCv2.out.trans (hb.mono HCv2.out.size))
  have sv3 := HCv3.out.size
  clear hb
  have mv3_0 := cell_below HCv3.out x0_0 (by omega)
  have mv3_1 := cell_below HCv3.out x0_1 (by omega)
  have mv3_2 := cell_below HCv3.out x1_0 (by omega)
  have mv3_3 := cell_below HCv3.out x1_1 (by omega)
  refine hK.out _ _ ?_ (fun hHeld => ?_)
  · exact ⟨mv3_0, mv3_1, mv3_2, mv3_3⟩
  clear hK K
  try simp only [List.getElem_toArray, List.getElem_cons_succ, List.getElem_cons_zero, Act.put, List.setIfInBounds_toArray, List.set_cons_zero, List.set_cons_succ]
  refine wpAnyH_take (i := 13) (v := ?_) rfl (by kernel_rfl) (by kernel_rfl) (by kernel_rfl) (fun _ _ _ h => h) (Or.inl ⟨by rfl, ?_⟩) (by assumption) ?_
  rotate_left
  · intro w9 hSw; (try dsimp only at hSw); go_simp; try with_reducible rfl
  try simp only [List.getElem_toArray, List.getElem_cons_succ, List.getElem_cons_zero, Act.put, List.setIfInBounds_toArray, List.set_cons_zero, List.set_cons_succ]
  refine wpAnyH_take (i := 14) (v := ?_) rfl (by kernel_rfl) (by kernel_rfl) (by kernel_rfl) (fun _ _ _ h => h) (Or.inl ⟨by rfl, ?_⟩) (by assumption) ?_
  rotate_left
  · intro w9 hSw; (try dsimp only at hSw); go_simp; try with_reducible rfl
  try simp only [List.getElem_toArray, List.getElem_cons_succ, List.getElem_cons_zero, Act.put, List.setIfInBounds_toArray, List.set_cons_zero, List.set_cons_succ]
  refine wpAnyH_ready (rs := [15]) (by kernel_rfl) (by simp) ?_
  refine AllReadyH.cons rfl (fun K hK => ?_) AllReadyH.nil
  clear hHeld
  go_simp
  refine hK.out _ _ ?_ (fun hHeld => ?_)
  · exact ⟨mv3_0, mv3_1, mv3_2, mv3_3⟩
  clear hK K
  try simp only [List.getElem_toArray, List.getElem_cons_succ, List.getElem_cons_zero, Act.put, List.setIfInBounds_toArray, List.set_cons_zero, List.set_cons_succ]
  refine wpAnyH_take (i := 16) (v := ?_) rfl (by kernel_rfl) (by kernel_rfl) (by kernel_rfl) (fun _ _ _ h => h) (Or.inl ⟨by rfl, ?_⟩) (by assumption) ?_
  rotate_left
  · intro w9 hSw; (try dsimp only at hSw); go_simp; try with_reducible rfl
  try simp only [List.getElem_toArray, List.getElem_cons_succ, List.getElem_cons_zero, Act.put, List.setIfInBounds_toArray, List.set_cons_zero, List.set_cons_succ]
  refine wpAnyH_take (i := 17) (v := ?_) rfl (by kernel_rfl) (by kernel_rfl) (by kernel_rfl) (fun _ _ _ h => h) (Or.inl ⟨by rfl, ?_⟩) (by assumption) ?_
  rotate_left
  · intro w9 hSw; (try dsimp only at hSw); go_simp; try with_reducible rfl
  try simp only [List.getElem_toArray, List.getElem_cons_succ, List.getElem_cons_zero, Act.put, List.setIfInBounds_toArray, List.set_cons_zero, List.set_cons_succ]
  refine wpAnyH_take (i := 18) (v := ?_) rfl (by kernel_rfl) (by kernel_rfl) (by kernel_rfl) (fun _ _ _ h => h) (Or.inl ⟨by rfl, ?_⟩) (by assumption) ?_
  rotate_left
  · intro w9 hSw; (try dsimp only at hSw); go_simp; try with_reducible rfl
  try simp only [List.getElem_toArray, List.getElem_cons_succ, List.getElem_cons_zero, Act.put, List.setIfInBounds_toArray, List.set_cons_zero, List.set_cons_succ]
  refine wpAnyH_done (by kernel_rfl) ?_ _
  refine NoPanic.normal ?_
  replace x2_0 := cell_below HCv3.out x2_0 (by omega)
  replace x2_1 := cell_below HCv3.out x2_1 (by omega)
  replace f2_0 := fro_below HCv3.out f2_0 (by omega)
  replace f2_1 := fro_below HCv3.out f2_1 (by omega)
  have HBn := Lib.hid (HB0.out.trans (HCv3.out.mono (by omega)))
  replace x0_0 := cell_below HCv3.out x0_0 (by omega)
  replace x0_1 := cell_below HCv3.out x0_1 (by omega)
  replace x1_0 := cell_below HCv3.out x1_0 (by omega)
  replace x1_1 := cell_below HCv3.out x1_1 (by omega)
  have hw3 : w.heap.size + 2 < v3.heap.size := by omega
  go_wp2_with fail
  obtain ⟨hvl, hvl'⟩ := hVL.out
  refine wp_region_noPanic ?_
  refine wp_region_held_drew (S := fun w' => w'.cell? ⟨w.heap.size, 0, none⟩ = some (.int .i64 n) ∧ w'.cell? ⟨w.heap.size, 1, none⟩ = some (.slice a ls.length c) ∧ w'.cell? ⟨w.heap.size + 1, 0, none⟩ = some (.int .i64 n') ∧ w'.cell? ⟨w.heap.size + 1, 1, none⟩ = some (.slice a' ms.length c')) (by kernel_rfl) ?_ (fun hHeld => ?_)
  · exact ⟨x0_0, x0_1, x1_0, x1_1⟩
  have hb9 : Below v3.heap.size v3 v3.drew := (Below.refl _ _).drew
  have HD0 := Lib.hid hb9
  clear hb9
  generalize v3.drew = u0 at *
  refine wpAnyH_take (i := 0) (v := ?_) rfl (by kernel_rfl) (by kernel_rfl) (by kernel_rfl) (fun _ _ _ h => h) (Or.inl ⟨by rfl, ?_⟩) (by assumption) ?_
  rotate_left
  · intro w9 hSw; (try dsimp only at hSw); go_simp; try with_reducible rfl
  try simp only [List.getElem_toArray, List.getElem_cons_succ, List.getElem_cons_zero, Act.put, List.setIfInBounds_toArray, List.set_cons_zero, List.set_cons_succ]
  refine wpAnyH_take (i := 1) (v := ?_) rfl (by kernel_rfl) (by kernel_rfl) (by kernel_rfl) (fun _ _ _ h => h) (Or.inl ⟨by rfl, ?_⟩) (by assumption) ?_
  rotate_left
  · intro w9 hSw; (try dsimp only at hSw); go_simp; try with_reducible rfl
  try simp only [List.getElem_toArray, List.getElem_cons_succ, List.getElem_cons_zero, Act.put, List.setIfInBounds_toArray, List.set_cons_zero, List.set_cons_succ]
  refine wpAnyH_take (i := 2) (v := ?_) rfl (by kernel_rfl) (by kernel_rfl) (by kernel_rfl) (fun _ _ _ h => h) (Or.inl ⟨by rfl, ?_⟩) (by assumption) ?_
  rotate_left
  · intro w9 hSw; (try dsimp only at hSw); go_simp; try with_reducible rfl
  try simp only [List.getElem_toArray, List.getElem_cons_succ, List.getElem_cons_zero, Act.put, List.setIfInBounds_toArray, List.set_cons_zero, List.set_cons_succ]
  refine wpAnyH_take (i := 3) (v := ?_) rfl (by kernel_rfl) (by kernel_rfl) (by kernel_rfl) (fun _ _ _ h => h) (Or.inl ⟨by rfl, ?_⟩) (by assumption) ?_
  rotate_left
  · intro w9 hSw; (try dsimp only at hSw); go_simp; try with_reducible rfl
  try simp only [List.getElem_toArray, List.getElem_cons_succ, List.getElem_cons_zero, Act.put, List.setIfInBounds_toArray, List.set_cons_zero, List.set_cons_succ]
  refine wpAnyH_take (i := 4) (v := ?_) rfl (by kernel_rfl) (by kernel_rfl) (by kernel_rfl) (fun _ _ _ h => h) (Or.inl ⟨by rfl, ?_⟩) (by assumption) ?_
  rotate_left
  · intro w9 hSw; (try dsimp only at hSw); go_simp; try with_reducible rfl
  try simp only [List.getElem_toArray, List.getElem_cons_succ, List.getElem_cons_zero, Act.put, List.setIfInBounds_toArray, List.set_cons_zero, List.set_cons_succ]
  refine wpAnyH_take (i := 5) (v := ?_) rfl (by kernel_rfl) (by kernel_rfl) (by kernel_rfl) (fun _ _ _ h => h) (Or.inl ⟨by rfl, ?_⟩) (by assumption) ?_
  rotate_left
  · intro w9 hSw; (try dsimp only at hSw); go_simp; try with_reducible rfl
  try simp only [List.getElem_toArray, List.getElem_cons_succ, List.getElem_cons_zero, Act.put, List.setIfInBounds_toArray, List.set_cons_zero, List.set_cons_succ]
  refine wpAnyH_ready (rs := [6]) (by kernel_rfl) (by simp) ?_
  refine AllReadyH.cons rfl (fun K hK => ?_) AllReadyH.nil
  clear hHeld
  go_simp
  have hb := below_alloc u0 (.cells #[.slice a ls.length c, .slice a' ms.length c'] 63)
  have c50 : (u0.alloc (.cells #[.slice a ls.length c, .slice a' ms.length c'] 63)).cell? ⟨u0.heap.size, 0, none⟩ = some (.slice a ls.length c) := cell_new _ _ _ rfl rfl
  have c51 : (u0.alloc (.cells #[.slice a ls.length c, .slice a' ms.length c'] 63)).cell? ⟨u0.heap.size, 1, none⟩ = some (.slice a' ms.length c') := cell_new _ _ _ rfl rfl
  have hlt5 := size_alloc' u0 (.cells #[.slice a ls.length c, .slice a' ms.length c'] 63)
  obtain ⟨B5, hB5⟩ : ∃ B5 : Nat, B5 = u0.heap.size := ⟨_, rfl⟩
  rw [← hB5] at c50 c51 hlt5 ⊢
  have HD1 := Lib.hid (HD0.out.trans (hb.mono HD0.out.size))
  generalize hwn : u0.alloc (.cells #[.slice a ls.length c, .slice a' ms.length c'] 63) = u1 at *
  clear hwn hB5 hb
  have su1 := HD1.out.size
  have mu1_0 := cell_below HD1.out x0_0 (by omega)
  have mu1_1 := cell_below HD1.out x0_1 (by omega)
  have mu1_2 := cell_below HD1.out x1_0 (by omega)
  have mu1_3 := cell_below HD1.out x1_1 (by omega)
  refine hK.out _ _ ?_ (fun hHeld => ?_)
  · exact ⟨mu1_0, mu1_1, mu1_2, mu1_3⟩
  clear hK K
  try simp only [List.getElem_toArray, List.getElem_cons_succ, List.getElem_cons_zero, Act.put, List.setIfInBounds_toArray, List.set_cons_zero, List.set_cons_succ]
  refine wpAnyH_ready (rs := [7]) (by kernel_rfl) (by simp) ?_
  refine AllReadyH.cons rfl (fun K hK => ?_) AllReadyH.nil
  clear hHeld
  go_simp
  have hcc := concatR B5 2 a vs c a' vs' c' u1 (CellsAt.below hva (HBn.out.trans (HD1.out.mono HBn.out.size))) (CellsAt.below hva' (HBn.out.trans (HD1.out.mono HBn.out.size))) hv1 hv1' (by omega) (by omega) (by rw [hvl]; exact c50) (by rw [hvl']; exact c51) hlt5
  refine hcc.mono ?_
  rintro e' u2 ⟨v7, rfl, ho7, hb⟩
  obtain ⟨g7, c7, rfl, _, _⟩ := ho7.form (by rw [List.length_append]; have := HMS.out; omega)
  have HD2 := Lib.hid (HD1.out.trans (hb.mono HD1.out.size))
  have HBu := Lib.hid (HBn.out.trans (HD2.out.mono HBn.out.size))
  have hrj := reads_join ho7 hvl hvl' (fun k hk => by obtain ⟨p, cc, e1, e2, e3⟩ := hvk k hk; exact ⟨p, cc, e1, e2, e3.below HBu.out⟩) (fun k hk => by obtain ⟨p, cc, e1, e2, e3⟩ := hvk' k hk; exact ⟨p, cc, e1, e2, e3.below HBu.out⟩)
  rw [← HJE.out] at hrj
  have HRJ := Lib.hid hrj
  have hll7 : (vs ++ vs').length = J.length := by rw [HJL.out, List.length_append, hvl, hvl']
  rw [hll7]
  clear hb ho7 hcc hrj
  have su2 := HD2.out.size
  have mu2_0 := cell_below HD2.out x0_0 (by omega)
  have mu2_1 := cell_below HD2.out x0_1 (by omega)
  have mu2_2 := cell_below HD2.out x1_0 (by omega)
  have mu2_3 := cell_below HD2.out x1_1 (by omega)
  refine hK.out _ _ ?_ (fun hHeld => ?_)
  · exact ⟨mu2_0, mu2_1, mu2_2, mu2_3⟩
  clear hK K
  try simp only [List.getElem_toArray, List.getElem_cons_succ, List.getElem_cons_zero, Act.put, List.setIfInBounds_toArray, List.set_cons_zero, List.set_cons_succ]
  refine wpAnyH_ready (rs := [8]) (by kernel_rfl) (by simp) ?_
  refine AllReadyH.cons rfl (fun K hK => ?_) AllReadyH.nil
  clear hHeld
  go_simp
  refine (negi.impl_copies (some ⟨g7, 0, none⟩) J c7 u2 HRJ.out (by have := HJL.out; have := HMS.out; omega) HCB.out).mono ?_
  rintro e' u3 ⟨pv, qv, vs9, css9, rfl, hol, hb⟩
  have HD3 := Lib.hid (HD2.out.trans (hb.mono HD2.out.size))
  have HOL := Lib.hid hol
  clear hb hol
  have su3 := HD3.out.size
  have mu3_0 := cell_below HD3.out x0_0 (by omega)
  have mu3_1 := cell_below HD3.out x0_1 (by omega)
  have mu3_2 := cell_below HD3.out x1_0 (by omega)
  have mu3_3 := cell_below HD3.out x1_1 (by omega)
  refine hK.out _ _ ?_ (fun hHeld => ?_)
  · exact ⟨mu3_0, mu3_1, mu3_2, mu3_3⟩
  clear hK K
  try simp only [List.getElem_toArray, List.getElem_cons_succ, List.getElem_cons_zero, Act.put, List.setIfInBounds_toArray, List.set_cons_zero, List.set_cons_succ]
  refine wpAnyH_take (i := 9) (v := ?_) rfl (by kernel_rfl) (by kernel_rfl) (by kernel_rfl) (fun _ _ _ h => h) (Or.inl ⟨by rfl, ?_⟩) (by assumption) ?_
  rotate_left
  · intro w9 hSw; (try dsimp only at hSw); go_simp; try with_reducible rfl
  try simp only [List.getElem_toArray, List.getElem_cons_succ, List.getElem_cons_zero, Act.put, List.setIfInBounds_toArray, List.set_cons_zero, List.set_cons_succ]
  refine wpAnyH_ready (rs := [10]) (by kernel_rfl) (by simp) ?_
  refine AllReadyH.cons rfl (fun K hK => ?_) AllReadyH.nil
  clear hHeld
  go_simp
  refine (chk_no pv J qv n u3 (show OwnL _ _ _ _ _ from ⟨vs9, css9, HOL.out⟩).reads (by have := HJL.out; have := HMS.out; omega) HJM.out HJB.out).mono ?_
  rintro e' u4 ⟨rfl, hb⟩
  have HD4 := Lib.hid (HD3.out.trans (hb.mono HD3.out.size))
  have HO4 := Lib.hid (show OwnL u2.heap.size u4.heap.size u4 (.slice pv J.length qv) J from (OwnL.below ⟨vs9, css9, HOL.out⟩ hb).mono (Nat.le_refl _) hb.size)
  clear hb
  have su4 := HD4.out.size
  have y20 := cell_below HD4.out x2_0 (by omega)
  have y21 := cell_below HD4.out x2_1 (by omega)
  have g20 := fro_below HD4.out f2_0 (by omega)
  have g21 := fro_below HD4.out f2_1 (by omega)
  have mu4_0 := cell_below HD4.out x0_0 (by omega)
  have mu4_1 := cell_below HD4.out x0_1 (by omega)
  have mu4_2 := cell_below HD4.out x1_0 (by omega)
  have mu4_3 := cell_below HD4.out x1_1 (by omega)
  refine hK.out _ _ ?_ (fun hHeld => ?_)
  · exact ⟨mu4_0, mu4_1, mu4_2, mu4_3⟩
  clear hK K
  try simp only [List.getElem_toArray, List.getElem_cons_succ, List.getElem_cons_zero, Act.put, List.setIfInBounds_toArray, List.set_cons_zero, List.set_cons_succ]
  refine wpAnyH_take (i := 11) (v := ?_) rfl (by kernel_rfl) (by kernel_rfl) (by kernel_rfl) (fun _ _ _ h => h) (Or.inl ⟨by rfl, ?_⟩) (by assumption) ?_
  rotate_left
  · intro w9 hSw; (try dsimp only at hSw); go_simp; try with_reducible rfl
  try simp only [List.getElem_toArray, List.getElem_cons_succ, List.getElem_cons_zero, Act.put, List.setIfInBounds_toArray, List.set_cons_zero, List.set_cons_succ]
  refine wpAnyH_take (i := 12) (v := ?_) rfl (by kernel_rfl) (by kernel_rfl) (by kernel_rfl) (fun _ _ _ h => h) (Or.inl ⟨by rfl, ?_⟩) (by assumption) ?_
  rotate_left
  · intro w9 hSw; (try dsimp only at hSw); go_simp; try with_reducible rfl
  try simp only [List.getElem_toArray, List.getElem_cons_succ, List.getElem_cons_zero, Act.put, List.setIfInBounds_toArray, List.set_cons_zero, List.set_cons_succ]
  refine wpAnyH_ready (rs := [13]) (by kernel_rfl) (by simp) ?_
  refine AllReadyH.cons rfl (fun K hK => ?_) AllReadyH.nil
  clear hHeld
  go_simp
  refine hK.out _ _ ?_ (fun hHeld => ?_)
  · exact ⟨cell_set2 (cell_set2 mu4_0 (by omega) _) (by omega) _, cell_set2 (cell_set2 mu4_1 (by omega) _) (by omega) _, cell_set2 (cell_set2 mu4_2 (by omega) _) (by omega) _, cell_set2 (cell_set2 mu4_3 (by omega) _) (by omega) _⟩
  clear hK K
  try simp only [List.getElem_toArray, List.getElem_cons_succ, List.getElem_cons_zero, Act.put, List.setIfInBounds_toArray, List.set_cons_zero, List.set_cons_succ]
  refine wpAnyH_take (i := 14) (v := ?_) rfl (by kernel_rfl) (by kernel_rfl) (by kernel_rfl) (fun _ _ _ h => h) (Or.inl ⟨by rfl, ?_⟩) (by assumption) ?_
  rotate_left
  · intro w9 hSw; (try dsimp only at hSw); go_simp; try with_reducible rfl
  try simp only [List.getElem_toArray, List.getElem_cons_succ, List.getElem_cons_zero, Act.put, List.setIfInBounds_toArray, List.set_cons_zero, List.set_cons_succ]
  refine wpAnyH_done (by kernel_rfl) ?_ _
  refine NoPanic.normal ?_
  have HBR := Lib.hid (HBn.out.trans (HD4.out.mono HBn.out.size))
  go_wp2_with fail
  refine bodyPost_ret (v := .tuple #[.agg #[.int .i64 0, .slice none 0 0], .bool false]) (by simp [results, Try.results51, go_sem, y20, y21, g20, g21]) rfl ⟨_, rfl, ?_, ?_⟩
  · exact OwnL.nil _ _ _
  · exact (HBR.out.setCell (by simp; omega) _).setCell (by simp; omega) _
end Go.Proofs.Ytkbcofgigfnfaaa.afti
