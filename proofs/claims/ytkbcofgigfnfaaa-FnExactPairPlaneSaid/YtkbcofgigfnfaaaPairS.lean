/- The model's plane of two points. -/
import Derived.Test.YtkbcofgigfnfaaaPairP
import Derived.Test.YtkbcofgigfnfaaaSame
import Derived.Test.YtkbcofgigfnfaaaKept
import Derived.Test.YtkbcofgigfnfaaaSetCell
import Derived.Deep.RegionHeld3
import Derived.Deep.DrawnRows
import Derived.Deep.AppendLies
namespace Go.Proofs.Ytkbcofgigfnfaaa.pairs
open Go.RowKit own pp nums squares dots mk kern pairp same kept
set_option linter.unusedVariables false
set_option linter.unusedSimpArgs false

theorem cell_keep {W W' : World} (h : Below W.heap.size W W') {b o : Nat} {x : Value} (hx : W.cell? ⟨b, o, none⟩ = some x) : W'.cell? ⟨b, o, none⟩ = some x :=
  cell_below h hx (block_lt_of_cell (a := ⟨b, o, none⟩) hx)
theorem fro_keep {W W' : World} (h : Below W.heap.size W W') {b o o' : Nat} {x : Value} (hx : W.cell? ⟨b, o', none⟩ = some x) (hf : W.frozen? ⟨b, o, none⟩ = false) : W'.frozen? ⟨b, o, none⟩ = false :=
  fro_below h hf (block_lt_of_cell (a := ⟨b, o', none⟩) hx)
theorem cell_grow {W W' : World} {row : Option Nat} (h : W.grownBy W' row) {b o : Nat} {x : Value} (hx : W.cell? ⟨b, o, none⟩ = some x) (hne : ∀ g, row = some g → b ≠ g) : W'.cell? ⟨b, o, none⟩ = some x :=
  (World.cell?_of_block (h.block b (block_lt_of_cell (a := ⟨b, o, none⟩) hx) (fun e => hne b e.symm rfl))).trans hx
theorem fro_grow {W W' : World} {row : Option Nat} (h : W.grownBy W' row) {b o o' : Nat} {x : Value} (hx : W.cell? ⟨b, o', none⟩ = some x) (hf : W.frozen? ⟨b, o, none⟩ = false) (hne : ∀ g, row = some g → b ≠ g) : W'.frozen? ⟨b, o, none⟩ = false :=
  (World.frozen?_of_block (a := ⟨b, o, none⟩) (h.block b (block_lt_of_cell (a := ⟨b, o', none⟩) hx) (fun e => hne b e.symm rfl))).trans hf
theorem own_grow {W W' : World} {row : Option Nat} (h : W.grownBy W' row) {lo hi : Nat} {v : Value} {zs : List Int} (ho : OwnI lo hi W v zs) (hne : ∀ g, row = some g → g < lo ∨ hi ≤ g) : OwnI lo hi W' v zs :=
  ho.block fun g hg => h.block g (ho.lt hg).2.2 (fun e => by have := hne g e.symm; have := ho.lt hg; omega)
theorem cell_set2 {W : World} {b o b' o' : Nat} {x : Value} (hx : W.cell? ⟨b, o, none⟩ = some x) (hne : b ≠ b') (u : Value) : (W.setCell ⟨b', o', none⟩ u).cell? ⟨b, o, none⟩ = some x :=
  (World.cell?_of_block (Below.heap_setCell _ _ _ _ (by show b ≠ b'; exact hne))).trans hx
theorem grown_set (W : World) (b o : Nat) (u : Value) : W.grownBy (W.setCell ⟨b, o, none⟩ u) (some b) :=
  ⟨rfl, rfl, rfl, by rw [size_set]; exact Nat.le_refl _, fun k hk hne => Below.heap_setCell _ _ _ _ (fun e => hne (by rw [e]))⟩
theorem grown_trans {W W1 W2 : World} {row : Option Nat} (h : W.grownBy W1 row) (k : W1.grownBy W2 row) : W.grownBy W2 row :=
  ⟨k.os.trans h.os, k.tape.trans h.tape, k.output.trans h.output, Nat.le_trans h.size k.size, fun i hi hn => (k.block i (Nat.lt_of_lt_of_le hi h.size) hn).trans (h.block i hi hn)⟩
theorem own_narrow {W : World} {lo gg cap : Nat} {l : List Int} {z : Int} (h : W.ownsRow lo 3 1 (.slice (some ⟨gg, 0, none⟩) (l.length + 1) cap) (l.length + 1) (l.map (Value.int .i64) ++ [.int .i64 z])) : OwnI gg (gg + 1) W (.slice (some ⟨gg, 0, none⟩) (l.length + 1) cap) (l ++ [z]) := by
  have h2 : W.ownsRow lo 3 1 (.slice (some ⟨gg, 0, none⟩) (l.length + 1) cap) (l ++ [z]).length ((l ++ [z]).map (Value.int .i64)) := by simpa [List.map_append] using h
  exact ⟨ownsRow_base h2 (fun g e => by obtain rfl : gg = g := (by simpa [Value.ownBlock] using e); exact Nat.le_refl _), fun g e => by obtain rfl : gg = g := (by simpa [Value.ownBlock] using e); omega⟩
theorem own_put {W : World} {lo hi gg n cap : Nat} {l : List Int} (h : OwnI lo hi W (.slice (some ⟨gg, 0, none⟩) n cap) l) (hn : n = l.length) (k : Nat) (z : Int) : OwnI lo hi (W.setCell ⟨gg, k, none⟩ (.int .i64 z)) (.slice (some ⟨gg, 0, none⟩) n cap) (l.set k z) := by
  subst hn
  have := (h.1.stored k (.int .i64 z)).1
  rw [← List.map_set] at this
  exact ⟨by rw [List.length_set]; exact this, h.2⟩
theorem own_cell {W : World} {lo hi gg n cap : Nat} {l : List Int} (h : OwnI lo hi W (.slice (some ⟨gg, 0, none⟩) n cap) l) (hn : n = l.length) (k : Nat) (hk : k < l.length) : W.cell? ⟨gg, k, none⟩ = some (.int .i64 (l.getD k 0)) := by
  subst hn
  rw [h.1.cellAt k (by omega), List.getElem?_map, List.getElem?_eq_getElem hk, List.getD_eq_getElem?_getD, List.getElem?_eq_getElem hk]; rfl
theorem own_fro {W : World} {lo hi gg n cap : Nat} {l : List Int} (h : OwnI lo hi W (.slice (some ⟨gg, 0, none⟩) n cap) l) (hn : n = l.length) (k : Nat) : W.frozen? ⟨gg, k, none⟩ = false := by
  subst hn
  exact h.1.frozenAt k
set_option maxRecDepth 100000 in
set_option maxHeartbeats 1600000 in
theorem spec_pp_no (a : Option Addr) (xs : List Int) (c : Nat) (a' : Option Addr) (ys : List Int) (c' : Nat) (w : World) (hr : ints.Reads .i64 w a xs) (hq : ints.Reads .i64 w a' ys) (hn : xs.length ≤ 1048576) (hm : ys.length ≤ 1048576) (h : pairB xs ys = false ∨ xs = ys) :
    Calls Try.prog 31 #[.slice a xs.length c, .slice a' ys.length c'] w (RetPB [] 0 false w) := by
  have Hhr := Lib.hid hr
  have Hhq := Lib.hid hq
  clear hr hq
  cases hp : pointB xs
  · have HP := Lib.hid hp
    clear h hp
    go_enter Try.func31, Try.ntmps31
    obtain ⟨wb1, hw1⟩ : ∃ wb1 : World, wb1 = w.alloc (.cells #[.slice none 0 0, .int .i64 0] 45) := ⟨_, rfl⟩
    have z1 : wb1.heap.size = w.heap.size + 1 := by rw [hw1]; simp
    have x0_0 := (by rw [hw1]; exact cell_new _ _ _ rfl rfl : wb1.cell? ⟨w.heap.size, 0, none⟩ = some (.slice none 0 0))
    have x0_1 := (by rw [hw1]; exact cell_new _ _ _ rfl rfl : wb1.cell? ⟨w.heap.size, 1, none⟩ = some (.int .i64 0))
    have HB0 := Lib.hid (show Below w.heap.size w wb1 by rw [hw1]; exact (Below.refl w.heap.size w).alloc (Nat.le_refl _) _)
    have s1 : w.heap.size + 1 ≤ wb1.heap.size := by omega
    have f0_0 := (by rw [hw1]; exact fro_new _ _ _ rfl : wb1.frozen? ⟨w.heap.size, 0, none⟩ = false)
    have f0_1 := (by rw [hw1]; exact fro_new _ _ _ rfl : wb1.frozen? ⟨w.heap.size, 1, none⟩ = false)
    have HZ1 := Lib.hid z1
    clear z1
    go_wp2_with fail
    rw [← hw1]
    clear hw1
    refine (spec_point a xs c wb1 (Hhr.out.below HB0.out) hn false HP).mono ?_
    rintro e' w' ⟨rfl, rfl⟩
    go_wp2_with fail
    refine bodyPost_ret (v := .tuple #[.agg #[.slice none 0 0, .int .i64 0], .bool false]) (by simp [results, Try.results31, go_sem, x0_0, x0_1, f0_0, f0_1]) rfl ⟨_, rfl, OwnI.nil _ _ _, ?_⟩
    exact ((HB0.out.setCell (by simp) _).setCell (by simp) _)
  have HP := Lib.hid hp
  cases hq' : pointB ys
  · have HQ := Lib.hid hq'
    clear h hp hq'
    go_enter Try.func31, Try.ntmps31
    obtain ⟨wb1, hw1⟩ : ∃ wb1 : World, wb1 = w.alloc (.cells #[.slice none 0 0, .int .i64 0] 45) := ⟨_, rfl⟩
    have z1 : wb1.heap.size = w.heap.size + 1 := by rw [hw1]; simp
    have x0_0 := (by rw [hw1]; exact cell_new _ _ _ rfl rfl : wb1.cell? ⟨w.heap.size, 0, none⟩ = some (.slice none 0 0))
    have x0_1 := (by rw [hw1]; exact cell_new _ _ _ rfl rfl : wb1.cell? ⟨w.heap.size, 1, none⟩ = some (.int .i64 0))
    have HB0 := Lib.hid (show Below w.heap.size w wb1 by rw [hw1]; exact (Below.refl w.heap.size w).alloc (Nat.le_refl _) _)
    have s1 : w.heap.size + 1 ≤ wb1.heap.size := by omega
    have f0_0 := (by rw [hw1]; exact fro_new _ _ _ rfl : wb1.frozen? ⟨w.heap.size, 0, none⟩ = false)
    have f0_1 := (by rw [hw1]; exact fro_new _ _ _ rfl : wb1.frozen? ⟨w.heap.size, 1, none⟩ = false)
    have HZ1 := Lib.hid z1
    clear z1
    go_wp2_with fail
    rw [← hw1]
    clear hw1
    refine (spec_point a xs c wb1 (Hhr.out.below HB0.out) hn true HP).mono ?_
    rintro e' w' ⟨rfl, rfl⟩
    go_wp2_with fail
    refine (spec_point a' ys c' wb1 (Hhq.out.below HB0.out) hm false HQ).mono ?_
    rintro e' w' ⟨rfl, rfl⟩
    go_wp2_with fail
    refine bodyPost_ret (v := .tuple #[.agg #[.slice none 0 0, .int .i64 0], .bool false]) (by simp [results, Try.results31, go_sem, x0_0, x0_1, f0_0, f0_1]) rfl ⟨_, rfl, OwnI.nil _ _ _, ?_⟩
    exact ((HB0.out.setCell (by simp) _).setCell (by simp) _)
  have HQ := Lib.hid hq'
  by_cases hl : xs.length = ys.length
  · have g1 : ((xs.length : Int) != (ys.length : Int)) = false := by rw [bne_eq_false_iff_eq]; omega
    have HE := Lib.hid (show decide (xs = ys) = true by
      rcases h with h | h
      · rw [(pairB_iff _ _).2 ⟨hp, hq', hl⟩] at h; cases h
      · exact decide_eq_true h)
    clear h hp hq' hl
    go_enter Try.func31, Try.ntmps31
    obtain ⟨wb1, hw1⟩ : ∃ wb1 : World, wb1 = w.alloc (.cells #[.slice none 0 0, .int .i64 0] 45) := ⟨_, rfl⟩
    have z1 : wb1.heap.size = w.heap.size + 1 := by rw [hw1]; simp
    have x0_0 := (by rw [hw1]; exact cell_new _ _ _ rfl rfl : wb1.cell? ⟨w.heap.size, 0, none⟩ = some (.slice none 0 0))
    have x0_1 := (by rw [hw1]; exact cell_new _ _ _ rfl rfl : wb1.cell? ⟨w.heap.size, 1, none⟩ = some (.int .i64 0))
    have HB0 := Lib.hid (show Below w.heap.size w wb1 by rw [hw1]; exact (Below.refl w.heap.size w).alloc (Nat.le_refl _) _)
    have s1 : w.heap.size + 1 ≤ wb1.heap.size := by omega
    have f0_0 := (by rw [hw1]; exact fro_new _ _ _ rfl : wb1.frozen? ⟨w.heap.size, 0, none⟩ = false)
    have f0_1 := (by rw [hw1]; exact fro_new _ _ _ rfl : wb1.frozen? ⟨w.heap.size, 1, none⟩ = false)
    have HZ1 := Lib.hid z1
    clear z1
    go_wp2_with fail
    rw [← hw1]
    clear hw1
    refine (spec_point a xs c wb1 (Hhr.out.below HB0.out) hn true HP).mono ?_
    rintro e' w' ⟨rfl, rfl⟩
    go_wp2_with fail
    refine (spec_point a' ys c' wb1 (Hhq.out.below HB0.out) hm true HQ).mono ?_
    rintro e' w' ⟨rfl, rfl⟩
    go_wp2_with fail
    refine (spec_same a xs c a' ys c' wb1 (Hhr.out.below HB0.out) (Hhq.out.below HB0.out) hn hm true HE).mono ?_
    rintro e' w' ⟨rfl, m9, rfl⟩
    have hb := ints.below_drewN (Below.refl wb1.heap.size wb1) m9
    generalize hw9 : wb1.drewN m9 = w2 at *
    clear hw9
    replace x0_0 := cell_below hb x0_0 (by omega)
    replace x0_1 := cell_below hb x0_1 (by omega)
    replace f0_0 := fro_below hb f0_0 (by omega)
    replace f0_1 := fro_below hb f0_1 (by omega)
    have s2 := hb.size
    have HB2 := Lib.hid (HB0.out.trans (hb.mono HB0.out.size))
    clear hb
    go_wp2_with fail
    refine bodyPost_ret (v := .tuple #[.agg #[.slice none 0 0, .int .i64 0], .bool false]) (by simp [results, Try.results31, go_sem, x0_0, x0_1, f0_0, f0_1]) rfl ⟨_, rfl, OwnI.nil _ _ _, ?_⟩
    exact ((HB2.out.setCell (by simp) _).setCell (by simp) _)
  · have g1 : ((xs.length : Int) != (ys.length : Int)) = true := by simp; omega
    clear h hp hq' hl
    go_enter Try.func31, Try.ntmps31
    obtain ⟨wb1, hw1⟩ : ∃ wb1 : World, wb1 = w.alloc (.cells #[.slice none 0 0, .int .i64 0] 45) := ⟨_, rfl⟩
    have z1 : wb1.heap.size = w.heap.size + 1 := by rw [hw1]; simp
    have x0_0 := (by rw [hw1]; exact cell_new _ _ _ rfl rfl : wb1.cell? ⟨w.heap.size, 0, none⟩ = some (.slice none 0 0))
    have x0_1 := (by rw [hw1]; exact cell_new _ _ _ rfl rfl : wb1.cell? ⟨w.heap.size, 1, none⟩ = some (.int .i64 0))
    have HB0 := Lib.hid (show Below w.heap.size w wb1 by rw [hw1]; exact (Below.refl w.heap.size w).alloc (Nat.le_refl _) _)
    have s1 : w.heap.size + 1 ≤ wb1.heap.size := by omega
    have f0_0 := (by rw [hw1]; exact fro_new _ _ _ rfl : wb1.frozen? ⟨w.heap.size, 0, none⟩ = false)
    have f0_1 := (by rw [hw1]; exact fro_new _ _ _ rfl : wb1.frozen? ⟨w.heap.size, 1, none⟩ = false)
    have HZ1 := Lib.hid z1
    clear z1
    go_wp2_with fail
    rw [← hw1]
    clear hw1
    refine (spec_point a xs c wb1 (Hhr.out.below HB0.out) hn true HP).mono ?_
    rintro e' w' ⟨rfl, rfl⟩
    go_wp2_with fail
    refine (spec_point a' ys c' wb1 (Hhq.out.below HB0.out) hm true HQ).mono ?_
    rintro e' w' ⟨rfl, rfl⟩
    go_wp2_with fail
    refine bodyPost_ret (v := .tuple #[.agg #[.slice none 0 0, .int .i64 0], .bool false]) (by simp [results, Try.results31, go_sem, x0_0, x0_1, f0_0, f0_1]) rfl ⟨_, rfl, OwnI.nil _ _ _, ?_⟩
    exact ((HB0.out.setCell (by simp) _).setCell (by simp) _)
set_option maxRecDepth 100000 in
set_option maxHeartbeats 1600000 in
theorem spec_pp_yes (a : Option Addr) (xs : List Int) (c : Nat) (a' : Option Addr) (ys : List Int) (c' : Nat) (w : World) (hr : ints.Reads .i64 w a xs) (hq : ints.Reads .i64 w a' ys) (hn : xs.length ≤ 1048576) (hm : ys.length ≤ 1048576) (h : pairB xs ys = true) (hne : ¬ xs = ys) (hK : planeB (ppW xs ys) (ppD xs ys) = true) :
    Calls Try.prog 31 #[.slice a xs.length c, .slice a' ys.length c'] w (RetPB (ppW xs ys) (ppD xs ys) true w) := by
  obtain ⟨i0, hi, hz0, hz1, hz2⟩ := info_parts mk.infoInt
  obtain ⟨hp, hq', hl⟩ := (pairB_iff _ _).1 h
  have HP := Lib.hid hp
  have HQ := Lib.hid hq'
  have HE := Lib.hid (show decide (xs = ys) = false from decide_eq_false hne)
  have g1 : ((xs.length : Int) != (ys.length : Int)) = false := by rw [bne_eq_false_iff_eq]; omega
  have HPR := Lib.hid h
  have HSX := Lib.hid (dot_small hp hp rfl)
  have HSY := Lib.hid (dot_small hq' hq' rfl)
  have HLE := Lib.hid hl
  have h4 := ((pointB_iff _).1 hp).2.1
  have hpd := pp_bd h
  have HPD := Lib.hid (show ppD xs ys = dot xs xs - dot ys ys from rfl)
  have HKP := Lib.hid hK
  have Hhr := Lib.hid hr
  have Hhq := Lib.hid hq
  clear hr hq
  clear h hp hq' hne hl hK
  go_enter Try.func31, Try.ntmps31
  obtain ⟨wb1, hw1⟩ : ∃ wb1 : World, wb1 = w.alloc (.cells #[.slice none 0 0, .int .i64 0] 45) := ⟨_, rfl⟩
  have z1 : wb1.heap.size = w.heap.size + 1 := by rw [hw1]; simp
  have x0_0 := (by rw [hw1]; exact cell_new _ _ _ rfl rfl : wb1.cell? ⟨w.heap.size, 0, none⟩ = some (.slice none 0 0))
  have x0_1 := (by rw [hw1]; exact cell_new _ _ _ rfl rfl : wb1.cell? ⟨w.heap.size, 1, none⟩ = some (.int .i64 0))
  have HB0 := Lib.hid (show Below w.heap.size w wb1 by rw [hw1]; exact (Below.refl w.heap.size w).alloc (Nat.le_refl _) _)
  have s1 : w.heap.size + 1 ≤ wb1.heap.size := by omega
  have f0_0 := (by rw [hw1]; exact fro_new _ _ _ rfl : wb1.frozen? ⟨w.heap.size, 0, none⟩ = false)
  have f0_1 := (by rw [hw1]; exact fro_new _ _ _ rfl : wb1.frozen? ⟨w.heap.size, 1, none⟩ = false)
  have HZ1 := Lib.hid z1
  clear z1
  go_wp2_with fail
  rw [← hw1]
  clear hw1
  refine (spec_point a xs c wb1 (Hhr.out.below HB0.out) hn true HP).mono ?_
  rintro e' w' ⟨rfl, rfl⟩
  go_wp2_with fail
  refine (spec_point a' ys c' wb1 (Hhq.out.below HB0.out) hm true HQ).mono ?_
  rintro e' w' ⟨rfl, rfl⟩
  go_wp2_with fail
  refine (spec_same a xs c a' ys c' wb1 (Hhr.out.below HB0.out) (Hhq.out.below HB0.out) hn hm false HE).mono ?_
  rintro e' w' ⟨rfl, m9, rfl⟩
  have hb := ints.below_drewN (Below.refl wb1.heap.size wb1) m9
  generalize hw9 : wb1.drewN m9 = w2 at *
  clear hw9
  replace x0_0 := cell_below hb x0_0 (by omega)
  replace x0_1 := cell_below hb x0_1 (by omega)
  replace f0_0 := fro_below hb f0_0 (by omega)
  replace f0_1 := fro_below hb f0_1 (by omega)
  have s2 := hb.size
  have HB2 := Lib.hid (HB0.out.trans (hb.mono HB0.out.size))
  clear hb
  have c00 := x0_0
  have c01 := x0_1
  have c02 := f0_0
  have c03 := f0_1
  go_wp2_with fail
  obtain ⟨wc, hwc⟩ : ∃ wc : World, wc = w2.alloc (.cells #[] 3) := ⟨_, rfl⟩
  have hown0 : wc.ownsRow w2.heap.size 3 1 (.slice (some ⟨w2.heap.size, 0, none⟩) 0 0) 0 [] := by rw [hwc]; exact (own_empty w2).1
  have hb : Below w2.heap.size w2 wc := by rw [hwc]; exact below_alloc _ _
  rw [← hwc]
  clear hwc
  replace x0_0 := cell_below hb x0_0 (by omega)
  replace x0_1 := cell_below hb x0_1 (by omega)
  replace f0_0 := fro_below hb f0_0 (by omega)
  replace f0_1 := fro_below hb f0_1 (by omega)
  have sc := hb.size
  have hltc : w2.heap.size < wc.heap.size := (hown0.lt w2.heap.size rfl).2
  have HBC := Lib.hid (HB2.out.trans (hb.mono HB2.out.size))
  have HBQ := Lib.hid hb
  clear hb
  refine (spec_dot a xs c a xs c wc (Hhr.out.below HBC.out) (Hhr.out.below HBC.out) hn (Nat.le_refl _) hn HSX.out).mono ?_
  rintro e' w' ⟨rfl, m9, rfl⟩
  have hb := ints.below_drewN (Below.refl wc.heap.size wc) m9
  generalize hw9 : wc.drewN m9 = w3 at *
  clear hw9
  replace x0_0 := cell_below hb x0_0 (by omega)
  replace x0_1 := cell_below hb x0_1 (by omega)
  replace f0_0 := fro_below hb f0_0 (by omega)
  replace f0_1 := fro_below hb f0_1 (by omega)
  have hown3 := ownsRow_block (w' := w3) hown0 (fun g hg => hb.block g (hown0.lt g hg).2)
  have s3 := hb.size
  have HB3 := Lib.hid (HBC.out.trans (hb.mono HBC.out.size))
  have HBQ3 := Lib.hid (HBQ.out.trans (hb.mono sc))
  clear hb
  go_wp2_with fail
  refine (spec_dot a' ys c' a' ys c' w3 (Hhq.out.below HB3.out) (Hhq.out.below HB3.out) hm (Nat.le_refl _) hm HSY.out).mono ?_
  rintro e' w' ⟨rfl, m9, rfl⟩
  have hb := ints.below_drewN (Below.refl w3.heap.size w3) m9
  generalize hw9 : w3.drewN m9 = w4 at *
  clear hw9
  replace x0_0 := cell_below hb x0_0 (by omega)
  replace x0_1 := cell_below hb x0_1 (by omega)
  replace f0_0 := fro_below hb f0_0 (by omega)
  replace f0_1 := fro_below hb f0_1 (by omega)
  have hown4 := ownsRow_block (w' := w4) hown3 (fun g hg => hb.block g (hown3.lt g hg).2)
  have s4 := hb.size
  have HB4 := Lib.hid (HB3.out.trans (hb.mono HB3.out.size))
  have HBQ4 := Lib.hid (HBQ3.out.trans (hb.mono HBQ3.out.size))
  clear hb
  have e0 : IntKind.i64.wrap (dot xs xs - dot ys ys) = ppD xs ys := by rw [← HPD.out]; exact IntWalk.i64_in _ (by omega)
  generalize dot xs xs = dx at *
  generalize dot ys ys = dy at *
  obtain ⟨DD, hDD⟩ : ∃ DD : Int, DD = ppD xs ys := ⟨_, rfl⟩
  have HPO := Lib.hid (show ∀ (e' : Ending) (w' : World), RetPB (ppW xs ys) DD true w e' w' → RetPB (ppW xs ys) (ppD xs ys) true w e' w' from by rw [hDD]; exact fun _ _ hh => hh)
  rw [← hDD] at e0 HKP
  clear hDD hpd HPD
  have HBC2 := Lib.hid (show Below w2.heap.size w2 w4 from HBQ4.out)
  go_wp2_with fail
  obtain ⟨BB, hBB⟩ : ∃ BB : Nat, BB = w4.heap.size := ⟨_, rfl⟩
  have y0 : (w4.alloc (.cells #[.slice (some ⟨w2.heap.size, 0, none⟩) 0 0, .int .i64 DD] 45)).cell? ⟨BB, 0, none⟩ = some (.slice (some ⟨w2.heap.size, 0, none⟩) 0 0) := cell_new _ _ _ hBB rfl
  have y1 : (w4.alloc (.cells #[.slice (some ⟨w2.heap.size, 0, none⟩) 0 0, .int .i64 DD] 45)).cell? ⟨BB, 1, none⟩ = some (.int .i64 DD) := cell_new _ _ _ hBB rfl
  have yf : (w4.alloc (.cells #[.slice (some ⟨w2.heap.size, 0, none⟩) 0 0, .int .i64 DD] 45)).frozen? ⟨BB, 0, none⟩ = false := fro_new _ _ _ hBB
  have hb := below_alloc w4 (.cells #[.slice (some ⟨w2.heap.size, 0, none⟩) 0 0, .int .i64 DD] 45)
  have hown5 := ownsRow_block (w' := w4.alloc (.cells #[.slice (some ⟨w2.heap.size, 0, none⟩) 0 0, .int .i64 DD] 45)) hown4 (fun g hg => hb.block g (hown4.lt g hg).2)
  have hltB : BB < (w4.alloc (.cells #[.slice (some ⟨w2.heap.size, 0, none⟩) 0 0, .int .i64 DD] 45)).heap.size := by rw [hBB]; exact size_alloc' _ _
  rw [← hBB]
  have hB2 : w2.heap.size < BB := by omega
  have HB5 := Lib.hid (show Below w2.heap.size w2 (w4.alloc (.cells #[.slice (some ⟨w2.heap.size, 0, none⟩) 0 0, .int .i64 DD] 45)) from HBC2.out.trans (hb.mono (by omega)))
  have hz5 := HB5.out.size
  generalize hw5 : w4.alloc (.cells #[.slice (some ⟨w2.heap.size, 0, none⟩) 0 0, .int .i64 DD] 45) = w5 at *
  clear hw5 hb hown4 hBB
  have HL5 := Lib.hid HLE.out
  obtain ⟨f9, hf9⟩ : ∃ f9 : Nat → Int, f9 = fun i => 2 * (xs.getD i 0 - ys.getD i 0) := ⟨_, rfl⟩
  have HF9 := Lib.hid hf9
  clear hf9
  go_loopw [7] (fun i wr => ∃ (k : Nat) (p : Option Addr) (cp : Nat), k ≤ xs.length ∧ i = .int .i64 k ∧ wr.cell? ⟨BB, 0, none⟩ = some (.slice p k cp) ∧ wr.cell? ⟨BB, 1, none⟩ = some (.int .i64 DD) ∧ wr.frozen? ⟨BB, 0, none⟩ = false ∧ wr.ownsRow w2.heap.size 3 1 (.slice p k cp) k ((mk.mk f9 k).map (Value.int .i64)) ∧ (∀ g, (Value.slice p k cp).ownBlock = some g → g ≠ BB) ∧ Below w2.heap.size w5 wr) (fun i _ => xs.length - (intOf i).toNat)
  case atStart => exact ⟨0, _, 0, Nat.zero_le _, rfl, y0, y1, yf, hown5, fun g e => by (have e2 : w2.heap.size = g := by simpa [Value.ownBlock] using e); omega, (Below.refl _ _).mono (by omega)⟩
  case round =>
    clear y0 y1 yf hown5
    obtain ⟨k, p, cp, hk, rfl, y0, y1, yf, hown, hnb, hbel⟩ := hrel
    have HNB := Lib.hid hnb
    have HV := Lib.hid hown.lt
    have hsz := hbel.size
    have HBwr := Lib.hid hbel
    have HB6 := Lib.hid (HB5.out.trans hbel)
    have HOwr := Lib.hid hown
    by_cases hlt : k < xs.length
    · have hk4 : k < 4 := by omega
      obtain ⟨bx, ox, rfl, hbx, hcx⟩ := Hhr.out.at hlt
      obtain ⟨by9, oy, rfl, hby, hcy⟩ := Hhq.out.at (k := k) (by have := HL5.out; omega)
      have HBR9 := Lib.hid (HB2.out.trans (HB6.out.mono HB2.out.size))
      replace hcx := cell_below HBR9.out hcx hbx
      replace hcy := cell_below HBR9.out hcy hby
      have hab := pp_at HPR.out k hlt
      have HMK := Lib.hid (show mk.mk f9 (k + 1) = mk.mk f9 k ++ [2 * (xs.getD k 0 - ys.getD k 0)] by rw [mk_succ, HF9.out])
      have HBR := Lib.hid ((Below.refl wr.heap.size wr).mono (by omega : w2.heap.size ≤ wr.heap.size))
      have i1 : (0 : Int) ≤ (k : Int) := by omega
      have i2 : (k : Int) < (xs.length : Int) := by omega
      have i3 : (k : Int) < (ys.length : Int) := by have := HL5.out; omega
      have hw2 : w.heap.size < w2.heap.size := by omega
      clear hown hnb hbel
      generalize xs.getD k 0 = x at *
      generalize ys.getD k 0 = y at *
      have e1 : IntKind.i64.wrap (x - y) = x - y := IntWalk.i64_in _ (by omega)
      have e2 : IntKind.i64.wrap (2 * (x - y)) = 2 * (x - y) := IntWalk.i64_in _ (by omega)
      go_wp2_with fail
      refine wp_region_noPanic ?_
      refine wp_region_held_drew (S := fun w' => w'.cell? ⟨bx, ox + k, none⟩ = some (.int .i64 x) ∧ w'.cell? ⟨by9, oy + k, none⟩ = some (.int .i64 y)) (by kernel_rfl) ?_ (fun hHeld => ?_)
      · exact ⟨hcx, hcy⟩
      have hb : Below wr.heap.size wr wr.drew := (Below.refl _ _).drew
      generalize hwn : wr.drew = v51 at *
      clear hwn
      have HX0 := Lib.hid hb
      have sz51 : wr.heap.size ≤ v51.heap.size := hb.size
      replace yf := fro_keep hb y0 yf
      replace hcx := cell_keep hb hcx
      replace hcy := cell_keep hb hcy
      replace y0 := cell_keep hb y0
      replace y1 := cell_keep hb y1
      have HBh51 := Lib.hid (HBR.out.trans (hb.mono (by have := HBR.out.size; omega)))
      clear hb
      refine wpAnyH_take (i := 0) (v := ?_) rfl (by kernel_rfl) (by kernel_rfl) (by kernel_rfl) (fun _ _ _ h => h) (Or.inl ⟨by rfl, ?_⟩) (by assumption) ?_
      rotate_left
      · intro w9 hSw; (try dsimp only at hSw); go_simp; try with_reducible rfl
      try simp only [List.getElem_toArray, List.getElem_cons_succ, List.getElem_cons_zero, Act.put, List.setIfInBounds_toArray, List.set_cons_zero, List.set_cons_succ]
      refine wpAnyH_take (i := 2) (v := ?_) rfl (by kernel_rfl) (by kernel_rfl) (by kernel_rfl) (fun _ _ _ h => h) (Or.inl ⟨by rfl, ?_⟩) (by assumption) ?_
      rotate_left
      · intro w9 hSw; (try dsimp only at hSw); go_simp; try with_reducible rfl
      try simp only [List.getElem_toArray, List.getElem_cons_succ, List.getElem_cons_zero, Act.put, List.setIfInBounds_toArray, List.set_cons_zero, List.set_cons_succ]
      refine wpAnyH_take (i := 3) (v := ?_) rfl (by kernel_rfl) (by kernel_rfl) (by kernel_rfl) (fun _ _ _ h => h) (Or.inl ⟨by rfl, ?_⟩) (by assumption) ?_
      rotate_left
      · intro w9 hSw; (try dsimp only at hSw); go_simp; try with_reducible rfl
      try simp only [List.getElem_toArray, List.getElem_cons_succ, List.getElem_cons_zero, Act.put, List.setIfInBounds_toArray, List.set_cons_zero, List.set_cons_succ]
      refine wpAnyH_take (i := 4) (v := ?_) rfl (by kernel_rfl) (by kernel_rfl) (by kernel_rfl) (fun _ _ _ h => h) (Or.inl ⟨by rfl, ?_⟩) (by assumption) ?_
      rotate_left
      · intro w9 hSw; (try dsimp only at hSw); go_simp; try with_reducible rfl
      try simp only [List.getElem_toArray, List.getElem_cons_succ, List.getElem_cons_zero, Act.put, List.setIfInBounds_toArray, List.set_cons_zero, List.set_cons_succ]
      refine wpAnyH_take (i := 5) (v := ?_) rfl (by kernel_rfl) (by kernel_rfl) (by kernel_rfl) (fun _ _ _ h => h) (Or.inl ⟨by rfl, ?_⟩) (by assumption) ?_
      rotate_left
      · intro w9 hSw; (try dsimp only at hSw); go_simp; try with_reducible rfl
      try simp only [List.getElem_toArray, List.getElem_cons_succ, List.getElem_cons_zero, Act.put, List.setIfInBounds_toArray, List.set_cons_zero, List.set_cons_succ]
      refine wpAnyH_take (i := 6) (v := ?_) rfl (by kernel_rfl) (by kernel_rfl) (by kernel_rfl) (fun _ _ _ h => h) (Or.inl ⟨by rfl, ?_⟩) (by assumption) ?_
      rotate_left
      · intro w9 hSw; (try dsimp only at hSw); go_simp; try with_reducible rfl
      try simp only [List.getElem_toArray, List.getElem_cons_succ, List.getElem_cons_zero, Act.put, List.setIfInBounds_toArray, List.set_cons_zero, List.set_cons_succ]
      refine wpAnyH_take (i := 7) (v := ?_) rfl (by kernel_rfl) (by kernel_rfl) (by kernel_rfl) (fun _ _ _ h => h) (Or.inl ⟨by rfl, ?_⟩) (by assumption) ?_
      rotate_left
      · intro w9 hSw; (try dsimp only at hSw); go_simp; try with_reducible rfl
      try simp only [List.getElem_toArray, List.getElem_cons_succ, List.getElem_cons_zero, Act.put, List.setIfInBounds_toArray, List.set_cons_zero, List.set_cons_succ]
      refine wpAnyH_take (i := 8) (v := ?_) rfl (by kernel_rfl) (by kernel_rfl) (by kernel_rfl) (fun _ _ _ h => h) (Or.inl ⟨by rfl, ?_⟩) (by assumption) ?_
      rotate_left
      · intro w9 hSw; (try dsimp only at hSw); go_simp; try with_reducible rfl
      try simp only [List.getElem_toArray, List.getElem_cons_succ, List.getElem_cons_zero, Act.put, List.setIfInBounds_toArray, List.set_cons_zero, List.set_cons_succ]
      refine wpAnyH_take (i := 9) (v := ?_) rfl (by kernel_rfl) (by kernel_rfl) (by kernel_rfl) (fun _ _ _ h => h) (Or.inl ⟨by rfl, ?_⟩) (by assumption) ?_
      rotate_left
      · intro w9 hSw; (try dsimp only at hSw); go_simp; try with_reducible rfl
      try simp only [List.getElem_toArray, List.getElem_cons_succ, List.getElem_cons_zero, Act.put, List.setIfInBounds_toArray, List.set_cons_zero, List.set_cons_succ]
      refine wpAnyH_take (i := 10) (v := ?_) rfl (by kernel_rfl) (by kernel_rfl) (by kernel_rfl) (fun _ _ _ h => h) (Or.inl ⟨by rfl, ?_⟩) (by assumption) ?_
      rotate_left
      · intro w9 hSw; (try dsimp only at hSw); go_simp; try with_reducible rfl
      try simp only [List.getElem_toArray, List.getElem_cons_succ, List.getElem_cons_zero, Act.put, List.setIfInBounds_toArray, List.set_cons_zero, List.set_cons_succ]
      refine wpAnyH_take (i := 11) (v := ?_) rfl (by kernel_rfl) (by kernel_rfl) (by kernel_rfl) (fun _ _ _ h => h) (Or.inl ⟨by rfl, ?_⟩) (by assumption) ?_
      rotate_left
      · intro w9 hSw; (try dsimp only at hSw); go_simp; try with_reducible rfl
      try simp only [List.getElem_toArray, List.getElem_cons_succ, List.getElem_cons_zero, Act.put, List.setIfInBounds_toArray, List.set_cons_zero, List.set_cons_succ]
      refine wpAnyH_ready (rs := [1, 12]) (by kernel_rfl) (by simp) ?_
      refine AllReadyH.cons rfl (fun K hK => ?_) ?_
      · skip
        clear hHeld
        go_simp
        refine hK.out _ _ ?_ (fun hHeld => ?_)
        · exact ⟨hcx, hcy⟩
        clear hK K
        try simp only [List.getElem_toArray, List.getElem_cons_succ, List.getElem_cons_zero, Act.put, List.setIfInBounds_toArray, List.set_cons_zero, List.set_cons_succ]
        refine wpAnyH_ready (rs := [12]) (by kernel_rfl) (by simp) ?_
        refine AllReadyH.cons rfl (fun K hK => ?_) AllReadyH.nil
        clear hHeld
        go_simp
        have nx_0 : (v51.alloc (.cells #[.int .i64 (2 * (x - y))] 3)).cell? ⟨v51.heap.size, 0, none⟩ = some (.int .i64 (2 * (x - y))) := cell_new _ _ _ rfl rfl
        have hb := below_alloc v51 (.cells #[.int .i64 (2 * (x - y))] 3)
        have lt_nx := size_alloc' v51 (.cells #[.int .i64 (2 * (x - y))] 3)
        have HX1 := Lib.hid (HX0.out.trans (hb.mono HX0.out.size))
        generalize hwn : v51.alloc (.cells #[.int .i64 (2 * (x - y))] 3) = v52 at *
        clear hwn
        have sz52 : v51.heap.size ≤ v52.heap.size := hb.size
        replace yf := fro_keep hb y0 yf
        replace hcx := cell_keep hb hcx
        replace hcy := cell_keep hb hcy
        replace y0 := cell_keep hb y0
        replace y1 := cell_keep hb y1
        have HBh52 := Lib.hid (HBh51.out.trans (hb.mono (by have := HBh51.out.size; omega)))
        clear hb
        obtain ⟨Bnx, hBnx⟩ : ∃ Bnx : Nat, Bnx = v51.heap.size := ⟨_, rfl⟩
        rw [← hBnx] at nx_0 ⊢
        have hBl : Bnx ≤ v51.heap.size ∧ v51.heap.size ≤ Bnx := by omega
        clear hBnx
        refine hK.out _ _ ?_ (fun hHeld => ?_)
        · exact ⟨hcx, hcy⟩
        clear hK K
        try simp only [List.getElem_toArray, List.getElem_cons_succ, List.getElem_cons_zero, Act.put, List.setIfInBounds_toArray, List.set_cons_zero, List.set_cons_succ]
        refine wpAnyH_ready (rs := [13]) (by kernel_rfl) (by simp) ?_
        refine AllReadyH.cons rfl (fun K hK => ?_) AllReadyH.nil
        clear hHeld
        have how := ownsRow_block (w' := v52) HOwr.out (fun g hg => HX1.out.block g (HV.out g hg).2)
        have hrow : ∀ g, (Value.slice p k cp).ownBlock = some g → w2.heap.size ≤ g ∧ g < wr.heap.size ∧ g ≠ BB := fun g e => ⟨(HV.out g e).1, (HV.out g e).2, HNB.out g e⟩
        refine step_append_lies _ (by rfl) _ _ _ (by rfl) w2.heap.size 3 i0 _ 1 8 Try.underlying23 hi hz0 hz1 hz2 rfl (by omega) (.slice p k cp) k ((mk.mk f9 k).map (Value.int .i64)) (by rfl) how ⟨Bnx, 0, none⟩ 1 1 [.int .i64 (2 * (x - y))] (by rfl) (by rfl) (fun j u hj => by (have h7 : j = 0 := by (have := (List.getElem?_eq_some_iff.1 hj).1; simp at this; exact this)); subst h7; simp at hj; subst hj; simpa [Addr.add] using nx_0) (by simp [Value.oneCell']) (by omega) (by unfold maxLen; omega) (by omega) (by have := HBh52.out.size; omega) v52.heap.size rfl ?_
        intro gg gc v53 hown hg hat hlt9
        clear how
        have sz53 : v52.heap.size ≤ v53.heap.size := hg.size
        replace yf := fro_grow hg y0 yf (fun g e => by have := hrow g e; omega)
        replace hcx := cell_grow hg hcx (fun g e => by have := hrow g e; omega)
        replace hcy := cell_grow hg hcy (fun g e => by have := hrow g e; omega)
        replace y0 := cell_grow hg y0 (fun g e => by have := hrow g e; omega)
        replace y1 := cell_grow hg y1 (fun g e => by have := hrow g e; omega)
        replace nx_0 := cell_grow hg nx_0 (fun g e => by have := hrow g e; omega)
        have HBh53 := Lib.hid (HBh52.out.grown hg (by have := HBh52.out.size; omega) (fun g e => by have := hrow g e; omega))
        have HO13 := Lib.hid hown
        have hgb : gg ≠ BB := by (rcases hat with e | e); (exact (hrow gg e).2.2); omega
        clear hown hg hat hrow
        refine hK.out _ _ ?_ (fun hHeld => ?_)
        · exact ⟨hcx, hcy⟩
        clear hK K
        try simp only [List.getElem_toArray, List.getElem_cons_succ, List.getElem_cons_zero, Act.put, List.setIfInBounds_toArray, List.set_cons_zero, List.set_cons_succ]
        refine wpAnyH_take (i := 14) (v := ?_) rfl (by kernel_rfl) (by kernel_rfl) (by kernel_rfl) (fun _ _ _ h => h) (Or.inl ⟨by rfl, ?_⟩) (by assumption) ?_
        rotate_left
        · intro w9 hSw; (try dsimp only at hSw); go_simp; try with_reducible rfl
        try simp only [List.getElem_toArray, List.getElem_cons_succ, List.getElem_cons_zero, Act.put, List.setIfInBounds_toArray, List.set_cons_zero, List.set_cons_succ]
        refine wpAnyH_ready (rs := [15]) (by kernel_rfl) (by simp) ?_
        refine AllReadyH.cons rfl (fun K hK => ?_) AllReadyH.nil
        clear hHeld
        go_simp
        have z0 := World.cell?_setCell_same v53 ⟨BB, 0, none⟩ (.slice (some ⟨gg, 0, none⟩) (k + 1) gc) y0
        have z1 : (v53.setCell ⟨BB, 0, none⟩ (.slice (some ⟨gg, 0, none⟩) (k + 1) gc)).cell? ⟨BB, 1, none⟩ = some (.int .i64 DD) := (World.cell?_setCell_other _ _ _ _ (by simp)).trans y1
        have zf : (v53.setCell ⟨BB, 0, none⟩ (.slice (some ⟨gg, 0, none⟩) (k + 1) gc)).frozen? ⟨BB, 0, none⟩ = false := by rw [World.frozen?_setCell]; exact yf
        have HOz := Lib.hid (ownsRow_block (w' := (v53.setCell ⟨BB, 0, none⟩ (.slice (some ⟨gg, 0, none⟩) (k + 1) gc))) HO13.out (fun g e => Below.heap_setCell _ _ _ _ (by obtain rfl : gg = g := (by simpa [Value.ownBlock] using e); exact hgb)))
        have HBz := Lib.hid (HBh53.out.setCell (p := ⟨BB, 0, none⟩) (by show w2.heap.size ≤ BB; omega) (.slice (some ⟨gg, 0, none⟩) (k + 1) gc))
        have zx := cell_set2 (o' := 0) hcx (by omega : bx ≠ BB) (.slice (some ⟨gg, 0, none⟩) (k + 1) gc)
        have zy := cell_set2 (o' := 0) hcy (by omega : by9 ≠ BB) (.slice (some ⟨gg, 0, none⟩) (k + 1) gc)
        clear hcx hcy y0 y1 yf
        generalize hwn : (v53.setCell ⟨BB, 0, none⟩ (.slice (some ⟨gg, 0, none⟩) (k + 1) gc)) = v54 at *
        clear hwn
        have hcx := zx
        have hcy := zy
        clear zx zy
        refine hK.out _ _ ?_ (fun hHeld => ?_)
        · exact ⟨hcx, hcy⟩
        clear hK K
        try simp only [List.getElem_toArray, List.getElem_cons_succ, List.getElem_cons_zero, Act.put, List.setIfInBounds_toArray, List.set_cons_zero, List.set_cons_succ]
        refine wpAnyH_done (by kernel_rfl) ?_ _
        refine NoPanic.normal ?_
        clear hHeld
        go_wp2_with fail
        go_roundw
        case rel => exact ⟨k + 1, some ⟨gg, 0, none⟩, gc, by omega, by go_num, z0, z1, zf, by rw [HMK.out, List.map_append]; exact HOz.out, fun g e => by (obtain rfl : gg = g := (by simpa [Value.ownBlock] using e)); exact hgb, HBwr.out.trans HBz.out⟩
        case measure => simp [intOf]; omega
      refine AllReadyH.cons rfl (fun K hK => ?_) AllReadyH.nil
      clear hHeld
      go_simp
      have nx_0 : (v51.alloc (.cells #[.int .i64 (2 * (x - y))] 3)).cell? ⟨v51.heap.size, 0, none⟩ = some (.int .i64 (2 * (x - y))) := cell_new _ _ _ rfl rfl
      have hb := below_alloc v51 (.cells #[.int .i64 (2 * (x - y))] 3)
      have lt_nx := size_alloc' v51 (.cells #[.int .i64 (2 * (x - y))] 3)
      have HX1 := Lib.hid (HX0.out.trans (hb.mono HX0.out.size))
      generalize hwn : v51.alloc (.cells #[.int .i64 (2 * (x - y))] 3) = v52 at *
      clear hwn
      have sz52 : v51.heap.size ≤ v52.heap.size := hb.size
      replace yf := fro_keep hb y0 yf
      replace hcx := cell_keep hb hcx
      replace hcy := cell_keep hb hcy
      replace y0 := cell_keep hb y0
      replace y1 := cell_keep hb y1
      have HBh52 := Lib.hid (HBh51.out.trans (hb.mono (by have := HBh51.out.size; omega)))
      clear hb
      obtain ⟨Bnx, hBnx⟩ : ∃ Bnx : Nat, Bnx = v51.heap.size := ⟨_, rfl⟩
      rw [← hBnx] at nx_0 ⊢
      have hBl : Bnx ≤ v51.heap.size ∧ v51.heap.size ≤ Bnx := by omega
      clear hBnx
      refine hK.out _ _ ?_ (fun hHeld => ?_)
      · exact ⟨hcx, hcy⟩
      clear hK K
      try simp only [List.getElem_toArray, List.getElem_cons_succ, List.getElem_cons_zero, Act.put, List.setIfInBounds_toArray, List.set_cons_zero, List.set_cons_succ]
      refine wpAnyH_ready (rs := [1]) (by kernel_rfl) (by simp) ?_
      refine AllReadyH.cons rfl (fun K hK => ?_) AllReadyH.nil
      clear hHeld
      go_simp
      refine hK.out _ _ ?_ (fun hHeld => ?_)
      · exact ⟨hcx, hcy⟩
      clear hK K
      try simp only [List.getElem_toArray, List.getElem_cons_succ, List.getElem_cons_zero, Act.put, List.setIfInBounds_toArray, List.set_cons_zero, List.set_cons_succ]
      refine wpAnyH_ready (rs := [13]) (by kernel_rfl) (by simp) ?_
      refine AllReadyH.cons rfl (fun K hK => ?_) AllReadyH.nil
      clear hHeld
      have how := ownsRow_block (w' := v52) HOwr.out (fun g hg => HX1.out.block g (HV.out g hg).2)
      have hrow : ∀ g, (Value.slice p k cp).ownBlock = some g → w2.heap.size ≤ g ∧ g < wr.heap.size ∧ g ≠ BB := fun g e => ⟨(HV.out g e).1, (HV.out g e).2, HNB.out g e⟩
      refine step_append_lies _ (by rfl) _ _ _ (by rfl) w2.heap.size 3 i0 _ 1 8 Try.underlying23 hi hz0 hz1 hz2 rfl (by omega) (.slice p k cp) k ((mk.mk f9 k).map (Value.int .i64)) (by rfl) how ⟨Bnx, 0, none⟩ 1 1 [.int .i64 (2 * (x - y))] (by rfl) (by rfl) (fun j u hj => by (have h7 : j = 0 := by (have := (List.getElem?_eq_some_iff.1 hj).1; simp at this; exact this)); subst h7; simp at hj; subst hj; simpa [Addr.add] using nx_0) (by simp [Value.oneCell']) (by omega) (by unfold maxLen; omega) (by omega) (by have := HBh52.out.size; omega) v52.heap.size rfl ?_
      intro gg gc v53 hown hg hat hlt9
      clear how
      have sz53 : v52.heap.size ≤ v53.heap.size := hg.size
      replace yf := fro_grow hg y0 yf (fun g e => by have := hrow g e; omega)
      replace hcx := cell_grow hg hcx (fun g e => by have := hrow g e; omega)
      replace hcy := cell_grow hg hcy (fun g e => by have := hrow g e; omega)
      replace y0 := cell_grow hg y0 (fun g e => by have := hrow g e; omega)
      replace y1 := cell_grow hg y1 (fun g e => by have := hrow g e; omega)
      replace nx_0 := cell_grow hg nx_0 (fun g e => by have := hrow g e; omega)
      have HBh53 := Lib.hid (HBh52.out.grown hg (by have := HBh52.out.size; omega) (fun g e => by have := hrow g e; omega))
      have HO13 := Lib.hid hown
      have hgb : gg ≠ BB := by (rcases hat with e | e); (exact (hrow gg e).2.2); omega
      clear hown hg hat hrow
      refine hK.out _ _ ?_ (fun hHeld => ?_)
      · exact ⟨hcx, hcy⟩
      clear hK K
      try simp only [List.getElem_toArray, List.getElem_cons_succ, List.getElem_cons_zero, Act.put, List.setIfInBounds_toArray, List.set_cons_zero, List.set_cons_succ]
      refine wpAnyH_take (i := 14) (v := ?_) rfl (by kernel_rfl) (by kernel_rfl) (by kernel_rfl) (fun _ _ _ h => h) (Or.inl ⟨by rfl, ?_⟩) (by assumption) ?_
      rotate_left
      · intro w9 hSw; (try dsimp only at hSw); go_simp; try with_reducible rfl
      try simp only [List.getElem_toArray, List.getElem_cons_succ, List.getElem_cons_zero, Act.put, List.setIfInBounds_toArray, List.set_cons_zero, List.set_cons_succ]
      refine wpAnyH_ready (rs := [15]) (by kernel_rfl) (by simp) ?_
      refine AllReadyH.cons rfl (fun K hK => ?_) AllReadyH.nil
      clear hHeld
      go_simp
      have z0 := World.cell?_setCell_same v53 ⟨BB, 0, none⟩ (.slice (some ⟨gg, 0, none⟩) (k + 1) gc) y0
      have z1 : (v53.setCell ⟨BB, 0, none⟩ (.slice (some ⟨gg, 0, none⟩) (k + 1) gc)).cell? ⟨BB, 1, none⟩ = some (.int .i64 DD) := (World.cell?_setCell_other _ _ _ _ (by simp)).trans y1
      have zf : (v53.setCell ⟨BB, 0, none⟩ (.slice (some ⟨gg, 0, none⟩) (k + 1) gc)).frozen? ⟨BB, 0, none⟩ = false := by rw [World.frozen?_setCell]; exact yf
      have HOz := Lib.hid (ownsRow_block (w' := (v53.setCell ⟨BB, 0, none⟩ (.slice (some ⟨gg, 0, none⟩) (k + 1) gc))) HO13.out (fun g e => Below.heap_setCell _ _ _ _ (by obtain rfl : gg = g := (by simpa [Value.ownBlock] using e); exact hgb)))
      have HBz := Lib.hid (HBh53.out.setCell (p := ⟨BB, 0, none⟩) (by show w2.heap.size ≤ BB; omega) (.slice (some ⟨gg, 0, none⟩) (k + 1) gc))
      have zx := cell_set2 (o' := 0) hcx (by omega : bx ≠ BB) (.slice (some ⟨gg, 0, none⟩) (k + 1) gc)
      have zy := cell_set2 (o' := 0) hcy (by omega : by9 ≠ BB) (.slice (some ⟨gg, 0, none⟩) (k + 1) gc)
      clear hcx hcy y0 y1 yf
      generalize hwn : (v53.setCell ⟨BB, 0, none⟩ (.slice (some ⟨gg, 0, none⟩) (k + 1) gc)) = v54 at *
      clear hwn
      have hcx := zx
      have hcy := zy
      clear zx zy
      refine hK.out _ _ ?_ (fun hHeld => ?_)
      · exact ⟨hcx, hcy⟩
      clear hK K
      try simp only [List.getElem_toArray, List.getElem_cons_succ, List.getElem_cons_zero, Act.put, List.setIfInBounds_toArray, List.set_cons_zero, List.set_cons_succ]
      refine wpAnyH_done (by kernel_rfl) ?_ _
      refine NoPanic.normal ?_
      clear hHeld
      go_wp2_with fail
      go_roundw
      case rel => exact ⟨k + 1, some ⟨gg, 0, none⟩, gc, by omega, by go_num, z0, z1, zf, by rw [HMK.out, List.map_append]; exact HOz.out, fun g e => by (obtain rfl : gg = g := (by simpa [Value.ownBlock] using e)); exact hgb, HBwr.out.trans HBz.out⟩
      case measure => simp [intOf]; omega
    · obtain rfl : k = xs.length := by omega
      have i2 : ¬ (xs.length : Int) < (xs.length : Int) := by omega
      have HW := Lib.hid (show ppW xs ys = mk.mk f9 xs.length by rw [HF9.out]; rfl)
      have hol : OwnI w2.heap.size wr.heap.size wr (.slice p (ppW xs ys).length cp) (ppW xs ys) := by rw [HW.out]; exact OwnI.of (by rw [mk_length]; exact hown)
      have hx := HB2.out.trans (HB6.out.mono HB2.out.size)
      have hKP := HKP.out
      replace x0_0 := cell_below HB6.out c00 (by omega)
      replace x0_1 := cell_below HB6.out c01 (by omega)
      replace f0_0 := fro_below HB6.out c02 (by omega)
      replace f0_1 := fro_below HB6.out c03 (by omega)
      have HBx := Lib.hid hx
      have hlw := ppW_length xs ys
      have HKT := Lib.hid (spec_kept_yes p (ppW xs ys) cp DD wr hol.reads (by rw [hlw]; omega) (Lib.hid hKP))
      rw [hlw] at HKT
      have HOL := Lib.hid hol
      rw [hlw] at HOL
      clear hown hnb hbel hx hol hKP
      go_wp2_with fail
      refine HKT.out.mono ?_
      rintro e' w9 ⟨rfl, hb⟩
      have hs9 := hb.size
      have hB7 := HBx.out.trans (hb.mono HBx.out.size)
      have HB7 := Lib.hid hB7
      replace x0_0 := cell_below hb x0_0 (by omega)
      replace x0_1 := cell_below hb x0_1 (by omega)
      replace f0_0 := fro_below hb f0_0 (by omega)
      replace f0_1 := fro_below hb f0_1 (by omega)
      have HO9 := Lib.hid (HOL.out.below hb)
      clear hb hB7
      go_wp2_with fail
      refine bodyPost_ret (v := .tuple #[.agg #[.slice p xs.length cp, .int .i64 DD], .bool true]) (by simp [results, Try.results31, go_sem, x0_0, x0_1, f0_0, f0_1]) rfl (HPO.out _ _ ⟨_, rfl, ?_, ?_⟩)
      · simp only [size_set]; exact ((HO9.out.set (by show w.heap.size < _; omega) _).set (by show w.heap.size < _; omega) _).mono (by omega) (by omega)
      · exact (HB7.out.setCell (by simp) _).setCell (by simp) _
set_option maxRecDepth 100000 in
set_option maxHeartbeats 1600000 in
theorem spec_pp_out (a : Option Addr) (xs : List Int) (c : Nat) (a' : Option Addr) (ys : List Int) (c' : Nat) (w : World) (hr : ints.Reads .i64 w a xs) (hq : ints.Reads .i64 w a' ys) (hn : xs.length ≤ 1048576) (hm : ys.length ≤ 1048576) (h : pairB xs ys = true) (hne : ¬ xs = ys) (hK : planeB (ppW xs ys) (ppD xs ys) = false) :
    Calls Try.prog 31 #[.slice a xs.length c, .slice a' ys.length c'] w (RetPB [] 0 false w) := by
  obtain ⟨i0, hi, hz0, hz1, hz2⟩ := info_parts mk.infoInt
  obtain ⟨hp, hq', hl⟩ := (pairB_iff _ _).1 h
  have HP := Lib.hid hp
  have HQ := Lib.hid hq'
  have HE := Lib.hid (show decide (xs = ys) = false from decide_eq_false hne)
  have g1 : ((xs.length : Int) != (ys.length : Int)) = false := by rw [bne_eq_false_iff_eq]; omega
  have HPR := Lib.hid h
  have HSX := Lib.hid (dot_small hp hp rfl)
  have HSY := Lib.hid (dot_small hq' hq' rfl)
  have HLE := Lib.hid hl
  have h4 := ((pointB_iff _).1 hp).2.1
  have hpd := pp_bd h
  have HPD := Lib.hid (show ppD xs ys = dot xs xs - dot ys ys from rfl)
  have HKP := Lib.hid hK
  have Hhr := Lib.hid hr
  have Hhq := Lib.hid hq
  clear hr hq
  clear h hp hq' hne hl hK
  go_enter Try.func31, Try.ntmps31
  obtain ⟨wb1, hw1⟩ : ∃ wb1 : World, wb1 = w.alloc (.cells #[.slice none 0 0, .int .i64 0] 45) := ⟨_, rfl⟩
  have z1 : wb1.heap.size = w.heap.size + 1 := by rw [hw1]; simp
  have x0_0 := (by rw [hw1]; exact cell_new _ _ _ rfl rfl : wb1.cell? ⟨w.heap.size, 0, none⟩ = some (.slice none 0 0))
  have x0_1 := (by rw [hw1]; exact cell_new _ _ _ rfl rfl : wb1.cell? ⟨w.heap.size, 1, none⟩ = some (.int .i64 0))
  have HB0 := Lib.hid (show Below w.heap.size w wb1 by rw [hw1]; exact (Below.refl w.heap.size w).alloc (Nat.le_refl _) _)
  have s1 : w.heap.size + 1 ≤ wb1.heap.size := by omega
  have f0_0 := (by rw [hw1]; exact fro_new _ _ _ rfl : wb1.frozen? ⟨w.heap.size, 0, none⟩ = false)
  have f0_1 := (by rw [hw1]; exact fro_new _ _ _ rfl : wb1.frozen? ⟨w.heap.size, 1, none⟩ = false)
  have HZ1 := Lib.hid z1
  clear z1
  go_wp2_with fail
  rw [← hw1]
  clear hw1
  refine (spec_point a xs c wb1 (Hhr.out.below HB0.out) hn true HP).mono ?_
  rintro e' w' ⟨rfl, rfl⟩
  go_wp2_with fail
  refine (spec_point a' ys c' wb1 (Hhq.out.below HB0.out) hm true HQ).mono ?_
  rintro e' w' ⟨rfl, rfl⟩
  go_wp2_with fail
  refine (spec_same a xs c a' ys c' wb1 (Hhr.out.below HB0.out) (Hhq.out.below HB0.out) hn hm false HE).mono ?_
  rintro e' w' ⟨rfl, m9, rfl⟩
  have hb := ints.below_drewN (Below.refl wb1.heap.size wb1) m9
  generalize hw9 : wb1.drewN m9 = w2 at *
  clear hw9
  replace x0_0 := cell_below hb x0_0 (by omega)
  replace x0_1 := cell_below hb x0_1 (by omega)
  replace f0_0 := fro_below hb f0_0 (by omega)
  replace f0_1 := fro_below hb f0_1 (by omega)
  have s2 := hb.size
  have HB2 := Lib.hid (HB0.out.trans (hb.mono HB0.out.size))
  clear hb
  have c00 := x0_0
  have c01 := x0_1
  have c02 := f0_0
  have c03 := f0_1
  go_wp2_with fail
  obtain ⟨wc, hwc⟩ : ∃ wc : World, wc = w2.alloc (.cells #[] 3) := ⟨_, rfl⟩
  have hown0 : wc.ownsRow w2.heap.size 3 1 (.slice (some ⟨w2.heap.size, 0, none⟩) 0 0) 0 [] := by rw [hwc]; exact (own_empty w2).1
  have hb : Below w2.heap.size w2 wc := by rw [hwc]; exact below_alloc _ _
  rw [← hwc]
  clear hwc
  replace x0_0 := cell_below hb x0_0 (by omega)
  replace x0_1 := cell_below hb x0_1 (by omega)
  replace f0_0 := fro_below hb f0_0 (by omega)
  replace f0_1 := fro_below hb f0_1 (by omega)
  have sc := hb.size
  have hltc : w2.heap.size < wc.heap.size := (hown0.lt w2.heap.size rfl).2
  have HBC := Lib.hid (HB2.out.trans (hb.mono HB2.out.size))
  have HBQ := Lib.hid hb
  clear hb
  refine (spec_dot a xs c a xs c wc (Hhr.out.below HBC.out) (Hhr.out.below HBC.out) hn (Nat.le_refl _) hn HSX.out).mono ?_
  rintro e' w' ⟨rfl, m9, rfl⟩
  have hb := ints.below_drewN (Below.refl wc.heap.size wc) m9
  generalize hw9 : wc.drewN m9 = w3 at *
  clear hw9
  replace x0_0 := cell_below hb x0_0 (by omega)
  replace x0_1 := cell_below hb x0_1 (by omega)
  replace f0_0 := fro_below hb f0_0 (by omega)
  replace f0_1 := fro_below hb f0_1 (by omega)
  have hown3 := ownsRow_block (w' := w3) hown0 (fun g hg => hb.block g (hown0.lt g hg).2)
  have s3 := hb.size
  have HB3 := Lib.hid (HBC.out.trans (hb.mono HBC.out.size))
  have HBQ3 := Lib.hid (HBQ.out.trans (hb.mono sc))
  clear hb
  go_wp2_with fail
  refine (spec_dot a' ys c' a' ys c' w3 (Hhq.out.below HB3.out) (Hhq.out.below HB3.out) hm (Nat.le_refl _) hm HSY.out).mono ?_
  rintro e' w' ⟨rfl, m9, rfl⟩
  have hb := ints.below_drewN (Below.refl w3.heap.size w3) m9
  generalize hw9 : w3.drewN m9 = w4 at *
  clear hw9
  replace x0_0 := cell_below hb x0_0 (by omega)
  replace x0_1 := cell_below hb x0_1 (by omega)
  replace f0_0 := fro_below hb f0_0 (by omega)
  replace f0_1 := fro_below hb f0_1 (by omega)
  have hown4 := ownsRow_block (w' := w4) hown3 (fun g hg => hb.block g (hown3.lt g hg).2)
  have s4 := hb.size
  have HB4 := Lib.hid (HB3.out.trans (hb.mono HB3.out.size))
  have HBQ4 := Lib.hid (HBQ3.out.trans (hb.mono HBQ3.out.size))
  clear hb
  have e0 : IntKind.i64.wrap (dot xs xs - dot ys ys) = ppD xs ys := by rw [← HPD.out]; exact IntWalk.i64_in _ (by omega)
  generalize dot xs xs = dx at *
  generalize dot ys ys = dy at *
  obtain ⟨DD, hDD⟩ : ∃ DD : Int, DD = ppD xs ys := ⟨_, rfl⟩
  have HPO := Lib.hid (show ∀ (e' : Ending) (w' : World), RetPB (ppW xs ys) DD true w e' w' → RetPB (ppW xs ys) (ppD xs ys) true w e' w' from by rw [hDD]; exact fun _ _ hh => hh)
  rw [← hDD] at e0 HKP
  clear hDD hpd HPD
  have HBC2 := Lib.hid (show Below w2.heap.size w2 w4 from HBQ4.out)
  go_wp2_with fail
  obtain ⟨BB, hBB⟩ : ∃ BB : Nat, BB = w4.heap.size := ⟨_, rfl⟩
  have y0 : (w4.alloc (.cells #[.slice (some ⟨w2.heap.size, 0, none⟩) 0 0, .int .i64 DD] 45)).cell? ⟨BB, 0, none⟩ = some (.slice (some ⟨w2.heap.size, 0, none⟩) 0 0) := cell_new _ _ _ hBB rfl
  have y1 : (w4.alloc (.cells #[.slice (some ⟨w2.heap.size, 0, none⟩) 0 0, .int .i64 DD] 45)).cell? ⟨BB, 1, none⟩ = some (.int .i64 DD) := cell_new _ _ _ hBB rfl
  have yf : (w4.alloc (.cells #[.slice (some ⟨w2.heap.size, 0, none⟩) 0 0, .int .i64 DD] 45)).frozen? ⟨BB, 0, none⟩ = false := fro_new _ _ _ hBB
  have hb := below_alloc w4 (.cells #[.slice (some ⟨w2.heap.size, 0, none⟩) 0 0, .int .i64 DD] 45)
  have hown5 := ownsRow_block (w' := w4.alloc (.cells #[.slice (some ⟨w2.heap.size, 0, none⟩) 0 0, .int .i64 DD] 45)) hown4 (fun g hg => hb.block g (hown4.lt g hg).2)
  have hltB : BB < (w4.alloc (.cells #[.slice (some ⟨w2.heap.size, 0, none⟩) 0 0, .int .i64 DD] 45)).heap.size := by rw [hBB]; exact size_alloc' _ _
  rw [← hBB]
  have hB2 : w2.heap.size < BB := by omega
  have HB5 := Lib.hid (show Below w2.heap.size w2 (w4.alloc (.cells #[.slice (some ⟨w2.heap.size, 0, none⟩) 0 0, .int .i64 DD] 45)) from HBC2.out.trans (hb.mono (by omega)))
  have hz5 := HB5.out.size
  generalize hw5 : w4.alloc (.cells #[.slice (some ⟨w2.heap.size, 0, none⟩) 0 0, .int .i64 DD] 45) = w5 at *
  clear hw5 hb hown4 hBB
  have HL5 := Lib.hid HLE.out
  obtain ⟨f9, hf9⟩ : ∃ f9 : Nat → Int, f9 = fun i => 2 * (xs.getD i 0 - ys.getD i 0) := ⟨_, rfl⟩
  have HF9 := Lib.hid hf9
  clear hf9
  go_loopw [7] (fun i wr => ∃ (k : Nat) (p : Option Addr) (cp : Nat), k ≤ xs.length ∧ i = .int .i64 k ∧ wr.cell? ⟨BB, 0, none⟩ = some (.slice p k cp) ∧ wr.cell? ⟨BB, 1, none⟩ = some (.int .i64 DD) ∧ wr.frozen? ⟨BB, 0, none⟩ = false ∧ wr.ownsRow w2.heap.size 3 1 (.slice p k cp) k ((mk.mk f9 k).map (Value.int .i64)) ∧ (∀ g, (Value.slice p k cp).ownBlock = some g → g ≠ BB) ∧ Below w2.heap.size w5 wr) (fun i _ => xs.length - (intOf i).toNat)
  case atStart => exact ⟨0, _, 0, Nat.zero_le _, rfl, y0, y1, yf, hown5, fun g e => by (have e2 : w2.heap.size = g := by simpa [Value.ownBlock] using e); omega, (Below.refl _ _).mono (by omega)⟩
  case round =>
    clear y0 y1 yf hown5
    obtain ⟨k, p, cp, hk, rfl, y0, y1, yf, hown, hnb, hbel⟩ := hrel
    have HNB := Lib.hid hnb
    have HV := Lib.hid hown.lt
    have hsz := hbel.size
    have HBwr := Lib.hid hbel
    have HB6 := Lib.hid (HB5.out.trans hbel)
    have HOwr := Lib.hid hown
    by_cases hlt : k < xs.length
    · have hk4 : k < 4 := by omega
      obtain ⟨bx, ox, rfl, hbx, hcx⟩ := Hhr.out.at hlt
      obtain ⟨by9, oy, rfl, hby, hcy⟩ := Hhq.out.at (k := k) (by have := HL5.out; omega)
      have HBR9 := Lib.hid (HB2.out.trans (HB6.out.mono HB2.out.size))
      replace hcx := cell_below HBR9.out hcx hbx
      replace hcy := cell_below HBR9.out hcy hby
      have hab := pp_at HPR.out k hlt
      have HMK := Lib.hid (show mk.mk f9 (k + 1) = mk.mk f9 k ++ [2 * (xs.getD k 0 - ys.getD k 0)] by rw [mk_succ, HF9.out])
      have HBR := Lib.hid ((Below.refl wr.heap.size wr).mono (by omega : w2.heap.size ≤ wr.heap.size))
      have i1 : (0 : Int) ≤ (k : Int) := by omega
      have i2 : (k : Int) < (xs.length : Int) := by omega
      have i3 : (k : Int) < (ys.length : Int) := by have := HL5.out; omega
      have hw2 : w.heap.size < w2.heap.size := by omega
      clear hown hnb hbel
      generalize xs.getD k 0 = x at *
      generalize ys.getD k 0 = y at *
      have e1 : IntKind.i64.wrap (x - y) = x - y := IntWalk.i64_in _ (by omega)
      have e2 : IntKind.i64.wrap (2 * (x - y)) = 2 * (x - y) := IntWalk.i64_in _ (by omega)
      go_wp2_with fail
      refine wp_region_noPanic ?_
      refine wp_region_held_drew (S := fun w' => w'.cell? ⟨bx, ox + k, none⟩ = some (.int .i64 x) ∧ w'.cell? ⟨by9, oy + k, none⟩ = some (.int .i64 y)) (by kernel_rfl) ?_ (fun hHeld => ?_)
      · exact ⟨hcx, hcy⟩
      have hb : Below wr.heap.size wr wr.drew := (Below.refl _ _).drew
      generalize hwn : wr.drew = v51 at *
      clear hwn
      have HX0 := Lib.hid hb
      have sz51 : wr.heap.size ≤ v51.heap.size := hb.size
      replace yf := fro_keep hb y0 yf
      replace hcx := cell_keep hb hcx
      replace hcy := cell_keep hb hcy
      replace y0 := cell_keep hb y0
      replace y1 := cell_keep hb y1
      have HBh51 := Lib.hid (HBR.out.trans (hb.mono (by have := HBR.out.size; omega)))
      clear hb
      refine wpAnyH_take (i := 0) (v := ?_) rfl (by kernel_rfl) (by kernel_rfl) (by kernel_rfl) (fun _ _ _ h => h) (Or.inl ⟨by rfl, ?_⟩) (by assumption) ?_
      rotate_left
      · intro w9 hSw; (try dsimp only at hSw); go_simp; try with_reducible rfl
      try simp only [List.getElem_toArray, List.getElem_cons_succ, List.getElem_cons_zero, Act.put, List.setIfInBounds_toArray, List.set_cons_zero, List.set_cons_succ]
      refine wpAnyH_take (i := 2) (v := ?_) rfl (by kernel_rfl) (by kernel_rfl) (by kernel_rfl) (fun _ _ _ h => h) (Or.inl ⟨by rfl, ?_⟩) (by assumption) ?_
      rotate_left
      · intro w9 hSw; (try dsimp only at hSw); go_simp; try with_reducible rfl
      try simp only [List.getElem_toArray, List.getElem_cons_succ, List.getElem_cons_zero, Act.put, List.setIfInBounds_toArray, List.set_cons_zero, List.set_cons_succ]
      refine wpAnyH_take (i := 3) (v := ?_) rfl (by kernel_rfl) (by kernel_rfl) (by kernel_rfl) (fun _ _ _ h => h) (Or.inl ⟨by rfl, ?_⟩) (by assumption) ?_
      rotate_left
      · intro w9 hSw; (try dsimp only at hSw); go_simp; try with_reducible rfl
      try simp only [List.getElem_toArray, List.getElem_cons_succ, List.getElem_cons_zero, Act.put, List.setIfInBounds_toArray, List.set_cons_zero, List.set_cons_succ]
      refine wpAnyH_take (i := 4) (v := ?_) rfl (by kernel_rfl) (by kernel_rfl) (by kernel_rfl) (fun _ _ _ h => h) (Or.inl ⟨by rfl, ?_⟩) (by assumption) ?_
      rotate_left
      · intro w9 hSw; (try dsimp only at hSw); go_simp; try with_reducible rfl
      try simp only [List.getElem_toArray, List.getElem_cons_succ, List.getElem_cons_zero, Act.put, List.setIfInBounds_toArray, List.set_cons_zero, List.set_cons_succ]
      refine wpAnyH_take (i := 5) (v := ?_) rfl (by kernel_rfl) (by kernel_rfl) (by kernel_rfl) (fun _ _ _ h => h) (Or.inl ⟨by rfl, ?_⟩) (by assumption) ?_
      rotate_left
      · intro w9 hSw; (try dsimp only at hSw); go_simp; try with_reducible rfl
      try simp only [List.getElem_toArray, List.getElem_cons_succ, List.getElem_cons_zero, Act.put, List.setIfInBounds_toArray, List.set_cons_zero, List.set_cons_succ]
      refine wpAnyH_take (i := 6) (v := ?_) rfl (by kernel_rfl) (by kernel_rfl) (by kernel_rfl) (fun _ _ _ h => h) (Or.inl ⟨by rfl, ?_⟩) (by assumption) ?_
      rotate_left
      · intro w9 hSw; (try dsimp only at hSw); go_simp; try with_reducible rfl
      try simp only [List.getElem_toArray, List.getElem_cons_succ, List.getElem_cons_zero, Act.put, List.setIfInBounds_toArray, List.set_cons_zero, List.set_cons_succ]
      refine wpAnyH_take (i := 7) (v := ?_) rfl (by kernel_rfl) (by kernel_rfl) (by kernel_rfl) (fun _ _ _ h => h) (Or.inl ⟨by rfl, ?_⟩) (by assumption) ?_
      rotate_left
      · intro w9 hSw; (try dsimp only at hSw); go_simp; try with_reducible rfl
      try simp only [List.getElem_toArray, List.getElem_cons_succ, List.getElem_cons_zero, Act.put, List.setIfInBounds_toArray, List.set_cons_zero, List.set_cons_succ]
      refine wpAnyH_take (i := 8) (v := ?_) rfl (by kernel_rfl) (by kernel_rfl) (by kernel_rfl) (fun _ _ _ h => h) (Or.inl ⟨by rfl, ?_⟩) (by assumption) ?_
      rotate_left
      · intro w9 hSw; (try dsimp only at hSw); go_simp; try with_reducible rfl
      try simp only [List.getElem_toArray, List.getElem_cons_succ, List.getElem_cons_zero, Act.put, List.setIfInBounds_toArray, List.set_cons_zero, List.set_cons_succ]
      refine wpAnyH_take (i := 9) (v := ?_) rfl (by kernel_rfl) (by kernel_rfl) (by kernel_rfl) (fun _ _ _ h => h) (Or.inl ⟨by rfl, ?_⟩) (by assumption) ?_
      rotate_left
      · intro w9 hSw; (try dsimp only at hSw); go_simp; try with_reducible rfl
      try simp only [List.getElem_toArray, List.getElem_cons_succ, List.getElem_cons_zero, Act.put, List.setIfInBounds_toArray, List.set_cons_zero, List.set_cons_succ]
      refine wpAnyH_take (i := 10) (v := ?_) rfl (by kernel_rfl) (by kernel_rfl) (by kernel_rfl) (fun _ _ _ h => h) (Or.inl ⟨by rfl, ?_⟩) (by assumption) ?_
      rotate_left
      · intro w9 hSw; (try dsimp only at hSw); go_simp; try with_reducible rfl
      try simp only [List.getElem_toArray, List.getElem_cons_succ, List.getElem_cons_zero, Act.put, List.setIfInBounds_toArray, List.set_cons_zero, List.set_cons_succ]
      refine wpAnyH_take (i := 11) (v := ?_) rfl (by kernel_rfl) (by kernel_rfl) (by kernel_rfl) (fun _ _ _ h => h) (Or.inl ⟨by rfl, ?_⟩) (by assumption) ?_
      rotate_left
      · intro w9 hSw; (try dsimp only at hSw); go_simp; try with_reducible rfl
      try simp only [List.getElem_toArray, List.getElem_cons_succ, List.getElem_cons_zero, Act.put, List.setIfInBounds_toArray, List.set_cons_zero, List.set_cons_succ]
      refine wpAnyH_ready (rs := [1, 12]) (by kernel_rfl) (by simp) ?_
      refine AllReadyH.cons rfl (fun K hK => ?_) ?_
      · skip
        clear hHeld
        go_simp
        refine hK.out _ _ ?_ (fun hHeld => ?_)
        · exact ⟨hcx, hcy⟩
        clear hK K
        try simp only [List.getElem_toArray, List.getElem_cons_succ, List.getElem_cons_zero, Act.put, List.setIfInBounds_toArray, List.set_cons_zero, List.set_cons_succ]
        refine wpAnyH_ready (rs := [12]) (by kernel_rfl) (by simp) ?_
        refine AllReadyH.cons rfl (fun K hK => ?_) AllReadyH.nil
        clear hHeld
        go_simp
        have nx_0 : (v51.alloc (.cells #[.int .i64 (2 * (x - y))] 3)).cell? ⟨v51.heap.size, 0, none⟩ = some (.int .i64 (2 * (x - y))) := cell_new _ _ _ rfl rfl
        have hb := below_alloc v51 (.cells #[.int .i64 (2 * (x - y))] 3)
        have lt_nx := size_alloc' v51 (.cells #[.int .i64 (2 * (x - y))] 3)
        have HX1 := Lib.hid (HX0.out.trans (hb.mono HX0.out.size))
        generalize hwn : v51.alloc (.cells #[.int .i64 (2 * (x - y))] 3) = v52 at *
        clear hwn
        have sz52 : v51.heap.size ≤ v52.heap.size := hb.size
        replace yf := fro_keep hb y0 yf
        replace hcx := cell_keep hb hcx
        replace hcy := cell_keep hb hcy
        replace y0 := cell_keep hb y0
        replace y1 := cell_keep hb y1
        have HBh52 := Lib.hid (HBh51.out.trans (hb.mono (by have := HBh51.out.size; omega)))
        clear hb
        obtain ⟨Bnx, hBnx⟩ : ∃ Bnx : Nat, Bnx = v51.heap.size := ⟨_, rfl⟩
        rw [← hBnx] at nx_0 ⊢
        have hBl : Bnx ≤ v51.heap.size ∧ v51.heap.size ≤ Bnx := by omega
        clear hBnx
        refine hK.out _ _ ?_ (fun hHeld => ?_)
        · exact ⟨hcx, hcy⟩
        clear hK K
        try simp only [List.getElem_toArray, List.getElem_cons_succ, List.getElem_cons_zero, Act.put, List.setIfInBounds_toArray, List.set_cons_zero, List.set_cons_succ]
        refine wpAnyH_ready (rs := [13]) (by kernel_rfl) (by simp) ?_
        refine AllReadyH.cons rfl (fun K hK => ?_) AllReadyH.nil
        clear hHeld
        have how := ownsRow_block (w' := v52) HOwr.out (fun g hg => HX1.out.block g (HV.out g hg).2)
        have hrow : ∀ g, (Value.slice p k cp).ownBlock = some g → w2.heap.size ≤ g ∧ g < wr.heap.size ∧ g ≠ BB := fun g e => ⟨(HV.out g e).1, (HV.out g e).2, HNB.out g e⟩
        refine step_append_lies _ (by rfl) _ _ _ (by rfl) w2.heap.size 3 i0 _ 1 8 Try.underlying23 hi hz0 hz1 hz2 rfl (by omega) (.slice p k cp) k ((mk.mk f9 k).map (Value.int .i64)) (by rfl) how ⟨Bnx, 0, none⟩ 1 1 [.int .i64 (2 * (x - y))] (by rfl) (by rfl) (fun j u hj => by (have h7 : j = 0 := by (have := (List.getElem?_eq_some_iff.1 hj).1; simp at this; exact this)); subst h7; simp at hj; subst hj; simpa [Addr.add] using nx_0) (by simp [Value.oneCell']) (by omega) (by unfold maxLen; omega) (by omega) (by have := HBh52.out.size; omega) v52.heap.size rfl ?_
        intro gg gc v53 hown hg hat hlt9
        clear how
        have sz53 : v52.heap.size ≤ v53.heap.size := hg.size
        replace yf := fro_grow hg y0 yf (fun g e => by have := hrow g e; omega)
        replace hcx := cell_grow hg hcx (fun g e => by have := hrow g e; omega)
        replace hcy := cell_grow hg hcy (fun g e => by have := hrow g e; omega)
        replace y0 := cell_grow hg y0 (fun g e => by have := hrow g e; omega)
        replace y1 := cell_grow hg y1 (fun g e => by have := hrow g e; omega)
        replace nx_0 := cell_grow hg nx_0 (fun g e => by have := hrow g e; omega)
        have HBh53 := Lib.hid (HBh52.out.grown hg (by have := HBh52.out.size; omega) (fun g e => by have := hrow g e; omega))
        have HO13 := Lib.hid hown
        have hgb : gg ≠ BB := by (rcases hat with e | e); (exact (hrow gg e).2.2); omega
        clear hown hg hat hrow
        refine hK.out _ _ ?_ (fun hHeld => ?_)
        · exact ⟨hcx, hcy⟩
        clear hK K
        try simp only [List.getElem_toArray, List.getElem_cons_succ, List.getElem_cons_zero, Act.put, List.setIfInBounds_toArray, List.set_cons_zero, List.set_cons_succ]
        refine wpAnyH_take (i := 14) (v := ?_) rfl (by kernel_rfl) (by kernel_rfl) (by kernel_rfl) (fun _ _ _ h => h) (Or.inl ⟨by rfl, ?_⟩) (by assumption) ?_
        rotate_left
        · intro w9 hSw; (try dsimp only at hSw); go_simp; try with_reducible rfl
        try simp only [List.getElem_toArray, List.getElem_cons_succ, List.getElem_cons_zero, Act.put, List.setIfInBounds_toArray, List.set_cons_zero, List.set_cons_succ]
        refine wpAnyH_ready (rs := [15]) (by kernel_rfl) (by simp) ?_
        refine AllReadyH.cons rfl (fun K hK => ?_) AllReadyH.nil
        clear hHeld
        go_simp
        have z0 := World.cell?_setCell_same v53 ⟨BB, 0, none⟩ (.slice (some ⟨gg, 0, none⟩) (k + 1) gc) y0
        have z1 : (v53.setCell ⟨BB, 0, none⟩ (.slice (some ⟨gg, 0, none⟩) (k + 1) gc)).cell? ⟨BB, 1, none⟩ = some (.int .i64 DD) := (World.cell?_setCell_other _ _ _ _ (by simp)).trans y1
        have zf : (v53.setCell ⟨BB, 0, none⟩ (.slice (some ⟨gg, 0, none⟩) (k + 1) gc)).frozen? ⟨BB, 0, none⟩ = false := by rw [World.frozen?_setCell]; exact yf
        have HOz := Lib.hid (ownsRow_block (w' := (v53.setCell ⟨BB, 0, none⟩ (.slice (some ⟨gg, 0, none⟩) (k + 1) gc))) HO13.out (fun g e => Below.heap_setCell _ _ _ _ (by obtain rfl : gg = g := (by simpa [Value.ownBlock] using e); exact hgb)))
        have HBz := Lib.hid (HBh53.out.setCell (p := ⟨BB, 0, none⟩) (by show w2.heap.size ≤ BB; omega) (.slice (some ⟨gg, 0, none⟩) (k + 1) gc))
        have zx := cell_set2 (o' := 0) hcx (by omega : bx ≠ BB) (.slice (some ⟨gg, 0, none⟩) (k + 1) gc)
        have zy := cell_set2 (o' := 0) hcy (by omega : by9 ≠ BB) (.slice (some ⟨gg, 0, none⟩) (k + 1) gc)
        clear hcx hcy y0 y1 yf
        generalize hwn : (v53.setCell ⟨BB, 0, none⟩ (.slice (some ⟨gg, 0, none⟩) (k + 1) gc)) = v54 at *
        clear hwn
        have hcx := zx
        have hcy := zy
        clear zx zy
        refine hK.out _ _ ?_ (fun hHeld => ?_)
        · exact ⟨hcx, hcy⟩
        clear hK K
        try simp only [List.getElem_toArray, List.getElem_cons_succ, List.getElem_cons_zero, Act.put, List.setIfInBounds_toArray, List.set_cons_zero, List.set_cons_succ]
        refine wpAnyH_done (by kernel_rfl) ?_ _
        refine NoPanic.normal ?_
        clear hHeld
        go_wp2_with fail
        go_roundw
        case rel => exact ⟨k + 1, some ⟨gg, 0, none⟩, gc, by omega, by go_num, z0, z1, zf, by rw [HMK.out, List.map_append]; exact HOz.out, fun g e => by (obtain rfl : gg = g := (by simpa [Value.ownBlock] using e)); exact hgb, HBwr.out.trans HBz.out⟩
        case measure => simp [intOf]; omega
      refine AllReadyH.cons rfl (fun K hK => ?_) AllReadyH.nil
      clear hHeld
      go_simp
      have nx_0 : (v51.alloc (.cells #[.int .i64 (2 * (x - y))] 3)).cell? ⟨v51.heap.size, 0, none⟩ = some (.int .i64 (2 * (x - y))) := cell_new _ _ _ rfl rfl
      have hb := below_alloc v51 (.cells #[.int .i64 (2 * (x - y))] 3)
      have lt_nx := size_alloc' v51 (.cells #[.int .i64 (2 * (x - y))] 3)
      have HX1 := Lib.hid (HX0.out.trans (hb.mono HX0.out.size))
      generalize hwn : v51.alloc (.cells #[.int .i64 (2 * (x - y))] 3) = v52 at *
      clear hwn
      have sz52 : v51.heap.size ≤ v52.heap.size := hb.size
      replace yf := fro_keep hb y0 yf
      replace hcx := cell_keep hb hcx
      replace hcy := cell_keep hb hcy
      replace y0 := cell_keep hb y0
      replace y1 := cell_keep hb y1
      have HBh52 := Lib.hid (HBh51.out.trans (hb.mono (by have := HBh51.out.size; omega)))
      clear hb
      obtain ⟨Bnx, hBnx⟩ : ∃ Bnx : Nat, Bnx = v51.heap.size := ⟨_, rfl⟩
      rw [← hBnx] at nx_0 ⊢
      have hBl : Bnx ≤ v51.heap.size ∧ v51.heap.size ≤ Bnx := by omega
      clear hBnx
      refine hK.out _ _ ?_ (fun hHeld => ?_)
      · exact ⟨hcx, hcy⟩
      clear hK K
      try simp only [List.getElem_toArray, List.getElem_cons_succ, List.getElem_cons_zero, Act.put, List.setIfInBounds_toArray, List.set_cons_zero, List.set_cons_succ]
      refine wpAnyH_ready (rs := [1]) (by kernel_rfl) (by simp) ?_
      refine AllReadyH.cons rfl (fun K hK => ?_) AllReadyH.nil
      clear hHeld
      go_simp
      refine hK.out _ _ ?_ (fun hHeld => ?_)
      · exact ⟨hcx, hcy⟩
      clear hK K
      try simp only [List.getElem_toArray, List.getElem_cons_succ, List.getElem_cons_zero, Act.put, List.setIfInBounds_toArray, List.set_cons_zero, List.set_cons_succ]
      refine wpAnyH_ready (rs := [13]) (by kernel_rfl) (by simp) ?_
      refine AllReadyH.cons rfl (fun K hK => ?_) AllReadyH.nil
      clear hHeld
      have how := ownsRow_block (w' := v52) HOwr.out (fun g hg => HX1.out.block g (HV.out g hg).2)
      have hrow : ∀ g, (Value.slice p k cp).ownBlock = some g → w2.heap.size ≤ g ∧ g < wr.heap.size ∧ g ≠ BB := fun g e => ⟨(HV.out g e).1, (HV.out g e).2, HNB.out g e⟩
      refine step_append_lies _ (by rfl) _ _ _ (by rfl) w2.heap.size 3 i0 _ 1 8 Try.underlying23 hi hz0 hz1 hz2 rfl (by omega) (.slice p k cp) k ((mk.mk f9 k).map (Value.int .i64)) (by rfl) how ⟨Bnx, 0, none⟩ 1 1 [.int .i64 (2 * (x - y))] (by rfl) (by rfl) (fun j u hj => by (have h7 : j = 0 := by (have := (List.getElem?_eq_some_iff.1 hj).1; simp at this; exact this)); subst h7; simp at hj; subst hj; simpa [Addr.add] using nx_0) (by simp [Value.oneCell']) (by omega) (by unfold maxLen; omega) (by omega) (by have := HBh52.out.size; omega) v52.heap.size rfl ?_
      intro gg gc v53 hown hg hat hlt9
      clear how
      have sz53 : v52.heap.size ≤ v53.heap.size := hg.size
      replace yf := fro_grow hg y0 yf (fun g e => by have := hrow g e; omega)
      replace hcx := cell_grow hg hcx (fun g e => by have := hrow g e; omega)
      replace hcy := cell_grow hg hcy (fun g e => by have := hrow g e; omega)
      replace y0 := cell_grow hg y0 (fun g e => by have := hrow g e; omega)
      replace y1 := cell_grow hg y1 (fun g e => by have := hrow g e; omega)
      replace nx_0 := cell_grow hg nx_0 (fun g e => by have := hrow g e; omega)
      have HBh53 := Lib.hid (HBh52.out.grown hg (by have := HBh52.out.size; omega) (fun g e => by have := hrow g e; omega))
      have HO13 := Lib.hid hown
      have hgb : gg ≠ BB := by (rcases hat with e | e); (exact (hrow gg e).2.2); omega
      clear hown hg hat hrow
      refine hK.out _ _ ?_ (fun hHeld => ?_)
      · exact ⟨hcx, hcy⟩
      clear hK K
      try simp only [List.getElem_toArray, List.getElem_cons_succ, List.getElem_cons_zero, Act.put, List.setIfInBounds_toArray, List.set_cons_zero, List.set_cons_succ]
      refine wpAnyH_take (i := 14) (v := ?_) rfl (by kernel_rfl) (by kernel_rfl) (by kernel_rfl) (fun _ _ _ h => h) (Or.inl ⟨by rfl, ?_⟩) (by assumption) ?_
      rotate_left
      · intro w9 hSw; (try dsimp only at hSw); go_simp; try with_reducible rfl
      try simp only [List.getElem_toArray, List.getElem_cons_succ, List.getElem_cons_zero, Act.put, List.setIfInBounds_toArray, List.set_cons_zero, List.set_cons_succ]
      refine wpAnyH_ready (rs := [15]) (by kernel_rfl) (by simp) ?_
      refine AllReadyH.cons rfl (fun K hK => ?_) AllReadyH.nil
      clear hHeld
      go_simp
      have z0 := World.cell?_setCell_same v53 ⟨BB, 0, none⟩ (.slice (some ⟨gg, 0, none⟩) (k + 1) gc) y0
      have z1 : (v53.setCell ⟨BB, 0, none⟩ (.slice (some ⟨gg, 0, none⟩) (k + 1) gc)).cell? ⟨BB, 1, none⟩ = some (.int .i64 DD) := (World.cell?_setCell_other _ _ _ _ (by simp)).trans y1
      have zf : (v53.setCell ⟨BB, 0, none⟩ (.slice (some ⟨gg, 0, none⟩) (k + 1) gc)).frozen? ⟨BB, 0, none⟩ = false := by rw [World.frozen?_setCell]; exact yf
      have HOz := Lib.hid (ownsRow_block (w' := (v53.setCell ⟨BB, 0, none⟩ (.slice (some ⟨gg, 0, none⟩) (k + 1) gc))) HO13.out (fun g e => Below.heap_setCell _ _ _ _ (by obtain rfl : gg = g := (by simpa [Value.ownBlock] using e); exact hgb)))
      have HBz := Lib.hid (HBh53.out.setCell (p := ⟨BB, 0, none⟩) (by show w2.heap.size ≤ BB; omega) (.slice (some ⟨gg, 0, none⟩) (k + 1) gc))
      have zx := cell_set2 (o' := 0) hcx (by omega : bx ≠ BB) (.slice (some ⟨gg, 0, none⟩) (k + 1) gc)
      have zy := cell_set2 (o' := 0) hcy (by omega : by9 ≠ BB) (.slice (some ⟨gg, 0, none⟩) (k + 1) gc)
      clear hcx hcy y0 y1 yf
      generalize hwn : (v53.setCell ⟨BB, 0, none⟩ (.slice (some ⟨gg, 0, none⟩) (k + 1) gc)) = v54 at *
      clear hwn
      have hcx := zx
      have hcy := zy
      clear zx zy
      refine hK.out _ _ ?_ (fun hHeld => ?_)
      · exact ⟨hcx, hcy⟩
      clear hK K
      try simp only [List.getElem_toArray, List.getElem_cons_succ, List.getElem_cons_zero, Act.put, List.setIfInBounds_toArray, List.set_cons_zero, List.set_cons_succ]
      refine wpAnyH_done (by kernel_rfl) ?_ _
      refine NoPanic.normal ?_
      clear hHeld
      go_wp2_with fail
      go_roundw
      case rel => exact ⟨k + 1, some ⟨gg, 0, none⟩, gc, by omega, by go_num, z0, z1, zf, by rw [HMK.out, List.map_append]; exact HOz.out, fun g e => by (obtain rfl : gg = g := (by simpa [Value.ownBlock] using e)); exact hgb, HBwr.out.trans HBz.out⟩
      case measure => simp [intOf]; omega
    · obtain rfl : k = xs.length := by omega
      have i2 : ¬ (xs.length : Int) < (xs.length : Int) := by omega
      have HW := Lib.hid (show ppW xs ys = mk.mk f9 xs.length by rw [HF9.out]; rfl)
      have hol : OwnI w2.heap.size wr.heap.size wr (.slice p (ppW xs ys).length cp) (ppW xs ys) := by rw [HW.out]; exact OwnI.of (by rw [mk_length]; exact hown)
      have hx := HB2.out.trans (HB6.out.mono HB2.out.size)
      have hKP := HKP.out
      replace x0_0 := cell_below HB6.out c00 (by omega)
      replace x0_1 := cell_below HB6.out c01 (by omega)
      replace f0_0 := fro_below HB6.out c02 (by omega)
      replace f0_1 := fro_below HB6.out c03 (by omega)
      have HBx := Lib.hid hx
      have hlw := ppW_length xs ys
      have HKT := Lib.hid (spec_kept_no p (ppW xs ys) cp DD wr hol.reads (by rw [hlw]; omega) (Lib.hid hKP))
      rw [hlw] at HKT
      have HOL := Lib.hid hol
      rw [hlw] at HOL
      clear hown hnb hbel hx hol hKP
      go_wp2_with fail
      refine HKT.out.mono ?_
      rintro e' w9 ⟨rfl, hb⟩
      have hs9 := hb.size
      have hB7 := HBx.out.trans (hb.mono HBx.out.size)
      have HB7 := Lib.hid hB7
      replace x0_0 := cell_below hb x0_0 (by omega)
      replace x0_1 := cell_below hb x0_1 (by omega)
      replace f0_0 := fro_below hb f0_0 (by omega)
      replace f0_1 := fro_below hb f0_1 (by omega)
      have HO9 := Lib.hid (HOL.out.below hb)
      clear hb hB7
      go_wp2_with fail
      refine bodyPost_ret (v := .tuple #[.agg #[.slice none 0 0, .int .i64 0], .bool false]) (by simp [results, Try.results31, go_sem, x0_0, x0_1, f0_0, f0_1]) rfl ⟨_, rfl, OwnI.nil _ _ _, ?_⟩
      exact ((HB7.out.setCell (by simp) _).setCell (by simp) _)
end Go.Proofs.Ytkbcofgigfnfaaa.pairs
