/- The walks of SplitVoter: the model's and the program's. -/
import Derived.Test.YtcklehfcpengoaaVoter
import Derived.Test.YtcklehfcpengoaaDualV
import Derived.Deep.RegionHeld3
import Derived.Deep.DrawnRows
import Derived.Deep.AppendLies
import Derived.Laws.Rows
namespace Go.Proofs.Ytcklehfcpengoaa.splitv
open Go.RowKit own pp nums pv voter dualv
set_option linter.unusedVariables false
attribute [local go_sem ↓] Go.wp_at_zero Go.wp_at_succ
set_option linter.unusedSimpArgs false

theorem cell_keep {W W' : World} (h : Below W.heap.size W W') {b o : Nat} {x : Value} (hx : W.cell? ⟨b, o, none⟩ = some x) : W'.cell? ⟨b, o, none⟩ = some x :=
  cell_below h hx (block_lt_of_cell (a := ⟨b, o, none⟩) hx)
theorem fro_keep {W W' : World} (h : Below W.heap.size W W') {b o o' : Nat} {x : Value} (hx : W.cell? ⟨b, o', none⟩ = some x) (hf : W.frozen? ⟨b, o, none⟩ = false) : W'.frozen? ⟨b, o, none⟩ = false :=
  fro_below h hf (block_lt_of_cell (a := ⟨b, o', none⟩) hx)
theorem cell_grow {W W' : World} {row : Option Nat} (h : W.grownBy W' row) {b o : Nat} {x : Value} (hx : W.cell? ⟨b, o, none⟩ = some x) (hne : ∀ g, row = some g → b ≠ g) : W'.cell? ⟨b, o, none⟩ = some x :=
  (World.cell?_of_block (h.block b (block_lt_of_cell (a := ⟨b, o, none⟩) hx) (fun e => hne b e.symm rfl))).trans hx
theorem fro_grow {W W' : World} {row : Option Nat} (h : W.grownBy W' row) {b o o' : Nat} {x : Value} (hx : W.cell? ⟨b, o', none⟩ = some x) (hf : W.frozen? ⟨b, o, none⟩ = false) (hne : ∀ g, row = some g → b ≠ g) : W'.frozen? ⟨b, o, none⟩ = false :=
  (World.frozen?_of_block (a := ⟨b, o, none⟩) (h.block b (block_lt_of_cell (a := ⟨b, o', none⟩) hx) (fun e => hne b e.symm rfl))).trans hf
theorem own_grow {W W' : World} {row : Option Nat} (h : W.grownBy W' row) {lo hi : Nat} {v : Value} {zs : List Int} (ho : OwnI lo hi W v zs) (hne : ∀ g, row = some g → g < lo ∨ hi ≤ g) : OwnI lo hi W' v zs :=
  ho.block fun g hg => h.block g (ho.lt hg).2.2 (fun e => by have := hne g e.symm; have := ho.lt hg; omega)
theorem cell_set2 {W : World} {b o b' o' : Nat} {x : Value} (hx : W.cell? ⟨b, o, none⟩ = some x) (hne : b ≠ b') (u : Value) : (W.setCell ⟨b', o', none⟩ u).cell? ⟨b, o, none⟩ = some x :=
  (World.cell?_of_block (Below.heap_setCell _ _ _ _ (by show b ≠ b'; exact hne))).trans hx
theorem grown_set (W : World) (b o : Nat) (u : Value) : W.grownBy (W.setCell ⟨b, o, none⟩ u) (some b) :=
  ⟨rfl, rfl, rfl, by rw [size_set]; exact Nat.le_refl _, fun k hk hne => Below.heap_setCell _ _ _ _ (fun e => hne (by rw [e]))⟩
theorem grown_trans {W W1 W2 : World} {row : Option Nat} (h : W.grownBy W1 row) (k : W1.grownBy W2 row) : W.grownBy W2 row :=
  ⟨k.os.trans h.os, k.tape.trans h.tape, k.output.trans h.output, Nat.le_trans h.size k.size, fun i hi hn => (k.block i (Nat.lt_of_lt_of_le hi h.size) hn).trans (h.block i hi hn)⟩
theorem own_narrow {W : World} {lo gg cap : Nat} {l : List Int} {z : Int} (h : W.ownsRow lo 3 1 (.slice (some ⟨gg, 0, none⟩) (l.length + 1) cap) (l.length + 1) (l.map (Value.int .i64) ++ [.int .i64 z])) : OwnI gg (gg + 1) W (.slice (some ⟨gg, 0, none⟩) (l.length + 1) cap) (l ++ [z]) := by
  have h2 : W.ownsRow lo 3 1 (.slice (some ⟨gg, 0, none⟩) (l.length + 1) cap) (l ++ [z]).length ((l ++ [z]).map (Value.int .i64)) := by simpa [List.map_append] using h
  exact ⟨ownsRow_base h2 (fun g e => by obtain rfl : gg = g := (by simpa [Value.ownBlock] using e); exact Nat.le_refl _), fun g e => by obtain rfl : gg = g := (by simpa [Value.ownBlock] using e); omega⟩
theorem own_put {W : World} {lo hi gg n cap : Nat} {l : List Int} (h : OwnI lo hi W (.slice (some ⟨gg, 0, none⟩) n cap) l) (hn : n = l.length) (k : Nat) (z : Int) : OwnI lo hi (W.setCell ⟨gg, k, none⟩ (.int .i64 z)) (.slice (some ⟨gg, 0, none⟩) n cap) (l.set k z) := by
  subst hn
  have := (h.1.stored k (.int .i64 z)).1
  rw [← List.map_set] at this
  exact ⟨by rw [List.length_set]; exact this, h.2⟩
theorem own_cell {W : World} {lo hi gg n cap : Nat} {l : List Int} (h : OwnI lo hi W (.slice (some ⟨gg, 0, none⟩) n cap) l) (hn : n = l.length) (k : Nat) (hk : k < l.length) : W.cell? ⟨gg, k, none⟩ = some (.int .i64 (l.getD k 0)) := by
  subst hn
  rw [h.1.cellAt k (by omega), List.getElem?_map, List.getElem?_eq_getElem hk, List.getD_eq_getElem?_getD, List.getElem?_eq_getElem hk]; rfl
theorem own_fro {W : World} {lo hi gg n cap : Nat} {l : List Int} (h : OwnI lo hi W (.slice (some ⟨gg, 0, none⟩) n cap) l) (hn : n = l.length) (k : Nat) : W.frozen? ⟨gg, k, none⟩ = false := by
  subst hn
  exact h.1.frozenAt k
set_option maxRecDepth 100000 in
set_option maxHeartbeats 4000000 in
theorem spec_no (a : Option Addr) (ws : List Int) (c : Nat) (q : Int) (w : World) (hr : ints.Reads .i64 w a ws) (hn : ws.length ≤ 1048576) (i part : Int) (h : Hid (voterB ws q i = false)) :
    Calls Try.prog 32 #[.agg #[.slice a ws.length c, .int .i64 q], .int .i64 i, .int .i64 part] w (RetPB [] 0 false w) := by
  have Hhr := Lib.hid hr
  clear hr
  go_enter Try.func32, Try.ntmps32
  go_wp2_with fail
  have x0_0 : (w.alloc (.cells #[.slice a ws.length c, .int .i64 q] 27)).cell? ⟨w.heap.size, 0, none⟩ = some (.slice a ws.length c) := cell_new _ _ _ (by simp) rfl
  have x0_1 : (w.alloc (.cells #[.slice a ws.length c, .int .i64 q] 27)).cell? ⟨w.heap.size, 1, none⟩ = some (.int .i64 q) := cell_new _ _ _ (by simp) rfl
  have HB0 := Lib.hid (below_alloc w (.cells #[.slice a ws.length c, .int .i64 q] 27))
  replace x0_0 := cell_old (.cells #[.slice none 0 0, .int .i64 0] 27) x0_0
  replace x0_1 := cell_old (.cells #[.slice none 0 0, .int .i64 0] 27) x0_1
  have x1_0 : ((w.alloc (.cells #[.slice a ws.length c, .int .i64 q] 27)).alloc (.cells #[.slice none 0 0, .int .i64 0] 27)).cell? ⟨w.heap.size + 1, 0, none⟩ = some (.slice none 0 0) := cell_new _ _ _ (by simp) rfl
  have x1_1 : ((w.alloc (.cells #[.slice a ws.length c, .int .i64 q] 27)).alloc (.cells #[.slice none 0 0, .int .i64 0] 27)).cell? ⟨w.heap.size + 1, 1, none⟩ = some (.int .i64 0) := cell_new _ _ _ (by simp) rfl
  have f1_0 : ((w.alloc (.cells #[.slice a ws.length c, .int .i64 q] 27)).alloc (.cells #[.slice none 0 0, .int .i64 0] 27)).frozen? ⟨w.heap.size + 1, 0, none⟩ = false := fro_new _ _ _ (by simp)
  have f1_1 : ((w.alloc (.cells #[.slice a ws.length c, .int .i64 q] 27)).alloc (.cells #[.slice none 0 0, .int .i64 0] 27)).frozen? ⟨w.heap.size + 1, 1, none⟩ = false := fro_new _ _ _ (by simp)
  replace HB0 := Lib.hid (HB0.out.alloc (by simp) (.cells #[.slice none 0 0, .int .i64 0] 27))
  have s0 : w.heap.size + 2 ≤ ((w.alloc (.cells #[.slice a ws.length c, .int .i64 q] 27)).alloc (.cells #[.slice none 0 0, .int .i64 0] 27)).heap.size := by simp
  generalize hw : ((w.alloc (.cells #[.slice a ws.length c, .int .i64 q] 27)).alloc (.cells #[.slice none 0 0, .int .i64 0] 27)) = w0 at *
  clear hw
  have n0_0 : w.heap.size < w0.heap.size := by omega
  have n0_1 : w.heap.size + 1 < w0.heap.size := by omega
  refine (spec_voter a ws c q _ (Hhr.out.below HB0.out) hn i false h).mono ?_
  rintro e w1 ⟨rfl, hb⟩
  have s1 : w0.heap.size ≤ w1.heap.size := hb.size
  have n1_0 : w.heap.size < w1.heap.size := by omega
  have n1_1 : w.heap.size + 1 < w1.heap.size := by omega
  replace x0_0 := cell_below hb x0_0 (by omega)
  replace x0_1 := cell_below hb x0_1 (by omega)
  replace x1_0 := cell_below hb x1_0 (by omega)
  replace x1_1 := cell_below hb x1_1 (by omega)
  replace f1_0 := fro_below hb f1_0 (by omega)
  replace f1_1 := fro_below hb f1_1 (by omega)
  have HB1 := Lib.hid (HB0.out.trans (hb.mono (by omega)))
  clear hb
  go_wp2_with fail
  refine bodyPost_ret (v := .tuple #[.agg #[.slice none 0 0, .int .i64 0], .bool false]) (by simp [results, Try.results32, go_sem, x1_0, x1_1]) rfl ⟨_, rfl, OwnI.nil _ _ _, ?_⟩
  exact ((HB1.out.setCell (by simp) _).setCell (by simp) _)
set_option maxRecDepth 100000 in
set_option maxHeartbeats 4000000 in
theorem spec_part (a : Option Addr) (ws : List Int) (c : Nat) (q : Int) (w : World) (hr : ints.Reads .i64 w a ws) (hn : ws.length ≤ 1048576) (i part : Int) (h : Hid (voterB ws q i = true)) (hp : (decide (0 ≤ part) && decide (part ≤ ws.getD i.toNat 0)) = false) :
    Calls Try.prog 32 #[.agg #[.slice a ws.length c, .int .i64 q], .int .i64 i, .int .i64 part] w (RetPB [] 0 false w) := by
  obtain ⟨hv, hi0, hi1⟩ := (voter_iff _ _ _).1 h.out
  have h18 := ((vote_iff _ _).1 hv).1
  obtain ⟨k, rfl⟩ : ∃ k : Nat, i = k := ⟨i.toNat, by omega⟩
  have hk : k < ws.length := by omega
  have hx := vote_at hv k hk
  rw [Int.toNat_natCast] at hp
  have Hhr := Lib.hid hr
  clear hr
  go_enter Try.func32, Try.ntmps32
  go_wp2_with fail
  have x0_0 : (w.alloc (.cells #[.slice a ws.length c, .int .i64 q] 27)).cell? ⟨w.heap.size, 0, none⟩ = some (.slice a ws.length c) := cell_new _ _ _ (by simp) rfl
  have x0_1 : (w.alloc (.cells #[.slice a ws.length c, .int .i64 q] 27)).cell? ⟨w.heap.size, 1, none⟩ = some (.int .i64 q) := cell_new _ _ _ (by simp) rfl
  have HB0 := Lib.hid (below_alloc w (.cells #[.slice a ws.length c, .int .i64 q] 27))
  replace x0_0 := cell_old (.cells #[.slice none 0 0, .int .i64 0] 27) x0_0
  replace x0_1 := cell_old (.cells #[.slice none 0 0, .int .i64 0] 27) x0_1
  have x1_0 : ((w.alloc (.cells #[.slice a ws.length c, .int .i64 q] 27)).alloc (.cells #[.slice none 0 0, .int .i64 0] 27)).cell? ⟨w.heap.size + 1, 0, none⟩ = some (.slice none 0 0) := cell_new _ _ _ (by simp) rfl
  have x1_1 : ((w.alloc (.cells #[.slice a ws.length c, .int .i64 q] 27)).alloc (.cells #[.slice none 0 0, .int .i64 0] 27)).cell? ⟨w.heap.size + 1, 1, none⟩ = some (.int .i64 0) := cell_new _ _ _ (by simp) rfl
  have f1_0 : ((w.alloc (.cells #[.slice a ws.length c, .int .i64 q] 27)).alloc (.cells #[.slice none 0 0, .int .i64 0] 27)).frozen? ⟨w.heap.size + 1, 0, none⟩ = false := fro_new _ _ _ (by simp)
  have f1_1 : ((w.alloc (.cells #[.slice a ws.length c, .int .i64 q] 27)).alloc (.cells #[.slice none 0 0, .int .i64 0] 27)).frozen? ⟨w.heap.size + 1, 1, none⟩ = false := fro_new _ _ _ (by simp)
  replace HB0 := Lib.hid (HB0.out.alloc (by simp) (.cells #[.slice none 0 0, .int .i64 0] 27))
  have s0 : w.heap.size + 2 ≤ ((w.alloc (.cells #[.slice a ws.length c, .int .i64 q] 27)).alloc (.cells #[.slice none 0 0, .int .i64 0] 27)).heap.size := by simp
  generalize hw : ((w.alloc (.cells #[.slice a ws.length c, .int .i64 q] 27)).alloc (.cells #[.slice none 0 0, .int .i64 0] 27)) = w0 at *
  clear hw
  have n0_0 : w.heap.size < w0.heap.size := by omega
  have n0_1 : w.heap.size + 1 < w0.heap.size := by omega
  refine (spec_voter a ws c q _ (Hhr.out.below HB0.out) hn k true h).mono ?_
  rintro e w1 ⟨rfl, hb⟩
  have s1 : w0.heap.size ≤ w1.heap.size := hb.size
  have n1_0 : w.heap.size < w1.heap.size := by omega
  have n1_1 : w.heap.size + 1 < w1.heap.size := by omega
  replace x0_0 := cell_below hb x0_0 (by omega)
  replace x0_1 := cell_below hb x0_1 (by omega)
  replace x1_0 := cell_below hb x1_0 (by omega)
  replace x1_1 := cell_below hb x1_1 (by omega)
  replace f1_0 := fro_below hb f1_0 (by omega)
  replace f1_1 := fro_below hb f1_1 (by omega)
  have HB1 := Lib.hid (HB0.out.trans (hb.mono (by omega)))
  clear hb
  obtain ⟨b, off, rfl, hbl, hc⟩ := Hhr.out.at hk
  replace hc := cell_below HB1.out hc hbl
  have HIN := Lib.hid (show (decide (0 ≤ part) && decide (part ≤ ws.getD k 0)) = false from hp)
  clear hp
  generalize ws.getD k 0 = x at *
  go_wp2_with fail
  refine (in_any _ _ _ _ false HIN).mono ?_
  rintro e w' ⟨rfl, rfl⟩
  go_wp2_with fail
  refine bodyPost_ret (v := .tuple #[.agg #[.slice none 0 0, .int .i64 0], .bool false]) (by simp [results, Try.results32, go_sem, x1_0, x1_1]) rfl ⟨_, rfl, OwnI.nil _ _ _, ?_⟩
  exact ((HB1.out.setCell (by simp) _).setCell (by simp) _)
set_option maxRecDepth 100000 in
set_option maxHeartbeats 4000000 in
theorem spec_full (a : Option Addr) (ws : List Int) (c : Nat) (q : Int) (w : World) (hr : ints.Reads .i64 w a ws) (hn : ws.length ≤ 1048576) (i part : Int) (h : Hid (voterB ws q i = true)) (hp : (decide (0 ≤ part) && decide (part ≤ ws.getD i.toNat 0)) = true) (hl : 8 ≤ ws.length) :
    Calls Try.prog 32 #[.agg #[.slice a ws.length c, .int .i64 q], .int .i64 i, .int .i64 part] w (RetPB [] 0 false w) := by
  obtain ⟨hv, hi0, hi1⟩ := (voter_iff _ _ _).1 h.out
  have h18 := ((vote_iff _ _).1 hv).1
  obtain ⟨k, rfl⟩ : ∃ k : Nat, i = k := ⟨i.toNat, by omega⟩
  have hk : k < ws.length := by omega
  have hx := vote_at hv k hk
  rw [Int.toNat_natCast] at hp
  have Hhr := Lib.hid hr
  clear hr
  go_enter Try.func32, Try.ntmps32
  go_wp2_with fail
  have x0_0 : (w.alloc (.cells #[.slice a ws.length c, .int .i64 q] 27)).cell? ⟨w.heap.size, 0, none⟩ = some (.slice a ws.length c) := cell_new _ _ _ (by simp) rfl
  have x0_1 : (w.alloc (.cells #[.slice a ws.length c, .int .i64 q] 27)).cell? ⟨w.heap.size, 1, none⟩ = some (.int .i64 q) := cell_new _ _ _ (by simp) rfl
  have HB0 := Lib.hid (below_alloc w (.cells #[.slice a ws.length c, .int .i64 q] 27))
  replace x0_0 := cell_old (.cells #[.slice none 0 0, .int .i64 0] 27) x0_0
  replace x0_1 := cell_old (.cells #[.slice none 0 0, .int .i64 0] 27) x0_1
  have x1_0 : ((w.alloc (.cells #[.slice a ws.length c, .int .i64 q] 27)).alloc (.cells #[.slice none 0 0, .int .i64 0] 27)).cell? ⟨w.heap.size + 1, 0, none⟩ = some (.slice none 0 0) := cell_new _ _ _ (by simp) rfl
  have x1_1 : ((w.alloc (.cells #[.slice a ws.length c, .int .i64 q] 27)).alloc (.cells #[.slice none 0 0, .int .i64 0] 27)).cell? ⟨w.heap.size + 1, 1, none⟩ = some (.int .i64 0) := cell_new _ _ _ (by simp) rfl
  have f1_0 : ((w.alloc (.cells #[.slice a ws.length c, .int .i64 q] 27)).alloc (.cells #[.slice none 0 0, .int .i64 0] 27)).frozen? ⟨w.heap.size + 1, 0, none⟩ = false := fro_new _ _ _ (by simp)
  have f1_1 : ((w.alloc (.cells #[.slice a ws.length c, .int .i64 q] 27)).alloc (.cells #[.slice none 0 0, .int .i64 0] 27)).frozen? ⟨w.heap.size + 1, 1, none⟩ = false := fro_new _ _ _ (by simp)
  replace HB0 := Lib.hid (HB0.out.alloc (by simp) (.cells #[.slice none 0 0, .int .i64 0] 27))
  have s0 : w.heap.size + 2 ≤ ((w.alloc (.cells #[.slice a ws.length c, .int .i64 q] 27)).alloc (.cells #[.slice none 0 0, .int .i64 0] 27)).heap.size := by simp
  generalize hw : ((w.alloc (.cells #[.slice a ws.length c, .int .i64 q] 27)).alloc (.cells #[.slice none 0 0, .int .i64 0] 27)) = w0 at *
  clear hw
  have n0_0 : w.heap.size < w0.heap.size := by omega
  have n0_1 : w.heap.size + 1 < w0.heap.size := by omega
  refine (spec_voter a ws c q _ (Hhr.out.below HB0.out) hn k true h).mono ?_
  rintro e w1 ⟨rfl, hb⟩
  have s1 : w0.heap.size ≤ w1.heap.size := hb.size
  have n1_0 : w.heap.size < w1.heap.size := by omega
  have n1_1 : w.heap.size + 1 < w1.heap.size := by omega
  replace x0_0 := cell_below hb x0_0 (by omega)
  replace x0_1 := cell_below hb x0_1 (by omega)
  replace x1_0 := cell_below hb x1_0 (by omega)
  replace x1_1 := cell_below hb x1_1 (by omega)
  replace f1_0 := fro_below hb f1_0 (by omega)
  replace f1_1 := fro_below hb f1_1 (by omega)
  have HB1 := Lib.hid (HB0.out.trans (hb.mono (by omega)))
  clear hb
  obtain ⟨b, off, rfl, hbl, hc⟩ := Hhr.out.at hk
  replace hc := cell_below HB1.out hc hbl
  have HIN := Lib.hid (show (decide (0 ≤ part) && decide (part ≤ ws.getD k 0)) = true from hp)
  clear hp
  have g8 : ((ws.length : Int) == 8) = true := by rw [beq_iff_eq]; omega
  clear hl
  generalize ws.getD k 0 = x at *
  go_wp2_with fail
  refine (in_any _ _ _ _ true HIN).mono ?_
  rintro e w' ⟨rfl, rfl⟩
  go_wp2_with fail
  refine bodyPost_ret (v := .tuple #[.agg #[.slice none 0 0, .int .i64 0], .bool false]) (by simp [results, Try.results32, go_sem, x1_0, x1_1]) rfl ⟨_, rfl, OwnI.nil _ _ _, ?_⟩
  exact ((HB1.out.setCell (by simp) _).setCell (by simp) _)
set_option maxRecDepth 100000 in
set_option maxHeartbeats 4000000 in
theorem spec_yes (a : Option Addr) (ws : List Int) (c : Nat) (q : Int) (w : World) (hr : ints.Reads .i64 w a ws) (hn : ws.length ≤ 1048576) (i part : Int) (h : Hid (voterB ws q i = true)) (hp : (decide (0 ≤ part) && decide (part ≤ ws.getD i.toNat 0)) = true) (hl : ws.length < 8) :
    Calls Try.prog 32 #[.agg #[.slice a ws.length c, .int .i64 q], .int .i64 i, .int .i64 part] w (RetPB ((ws ++ [ws.getD i.toNat 0 - part]).set i.toNat part) q true w) := by
  obtain ⟨hv, hi0, hi1⟩ := (voter_iff _ _ _).1 h.out
  have h18 := ((vote_iff _ _).1 hv).1
  obtain ⟨k, rfl⟩ : ∃ k : Nat, i = k := ⟨i.toNat, by omega⟩
  have hk : k < ws.length := by omega
  have hx := vote_at hv k hk
  obtain ⟨i0, hi, hz0, hz1, hz2⟩ := info_parts own1.infoInt
  rw [Int.toNat_natCast] at hp ⊢
  have Hhr := Lib.hid hr
  clear hr
  go_enter Try.func32, Try.ntmps32
  go_wp2_with fail
  have x0_0 : (w.alloc (.cells #[.slice a ws.length c, .int .i64 q] 27)).cell? ⟨w.heap.size, 0, none⟩ = some (.slice a ws.length c) := cell_new _ _ _ (by simp) rfl
  have x0_1 : (w.alloc (.cells #[.slice a ws.length c, .int .i64 q] 27)).cell? ⟨w.heap.size, 1, none⟩ = some (.int .i64 q) := cell_new _ _ _ (by simp) rfl
  have HB0 := Lib.hid (below_alloc w (.cells #[.slice a ws.length c, .int .i64 q] 27))
  replace x0_0 := cell_old (.cells #[.slice none 0 0, .int .i64 0] 27) x0_0
  replace x0_1 := cell_old (.cells #[.slice none 0 0, .int .i64 0] 27) x0_1
  have x1_0 : ((w.alloc (.cells #[.slice a ws.length c, .int .i64 q] 27)).alloc (.cells #[.slice none 0 0, .int .i64 0] 27)).cell? ⟨w.heap.size + 1, 0, none⟩ = some (.slice none 0 0) := cell_new _ _ _ (by simp) rfl
  have x1_1 : ((w.alloc (.cells #[.slice a ws.length c, .int .i64 q] 27)).alloc (.cells #[.slice none 0 0, .int .i64 0] 27)).cell? ⟨w.heap.size + 1, 1, none⟩ = some (.int .i64 0) := cell_new _ _ _ (by simp) rfl
  have f1_0 : ((w.alloc (.cells #[.slice a ws.length c, .int .i64 q] 27)).alloc (.cells #[.slice none 0 0, .int .i64 0] 27)).frozen? ⟨w.heap.size + 1, 0, none⟩ = false := fro_new _ _ _ (by simp)
  have f1_1 : ((w.alloc (.cells #[.slice a ws.length c, .int .i64 q] 27)).alloc (.cells #[.slice none 0 0, .int .i64 0] 27)).frozen? ⟨w.heap.size + 1, 1, none⟩ = false := fro_new _ _ _ (by simp)
  replace HB0 := Lib.hid (HB0.out.alloc (by simp) (.cells #[.slice none 0 0, .int .i64 0] 27))
  have s0 : w.heap.size + 2 ≤ ((w.alloc (.cells #[.slice a ws.length c, .int .i64 q] 27)).alloc (.cells #[.slice none 0 0, .int .i64 0] 27)).heap.size := by simp
  generalize hw : ((w.alloc (.cells #[.slice a ws.length c, .int .i64 q] 27)).alloc (.cells #[.slice none 0 0, .int .i64 0] 27)) = w0 at *
  clear hw
  have n0_0 : w.heap.size < w0.heap.size := by omega
  have n0_1 : w.heap.size + 1 < w0.heap.size := by omega
  refine (spec_voter a ws c q _ (Hhr.out.below HB0.out) hn k true h).mono ?_
  rintro e w1 ⟨rfl, hb⟩
  have s1 : w0.heap.size ≤ w1.heap.size := hb.size
  have n1_0 : w.heap.size < w1.heap.size := by omega
  have n1_1 : w.heap.size + 1 < w1.heap.size := by omega
  replace x0_0 := cell_below hb x0_0 (by omega)
  replace x0_1 := cell_below hb x0_1 (by omega)
  replace x1_0 := cell_below hb x1_0 (by omega)
  replace x1_1 := cell_below hb x1_1 (by omega)
  replace f1_0 := fro_below hb f1_0 (by omega)
  replace f1_1 := fro_below hb f1_1 (by omega)
  have HB1 := Lib.hid (HB0.out.trans (hb.mono (by omega)))
  clear hb
  obtain ⟨b, off, rfl, hbl, hc⟩ := Hhr.out.at hk
  replace hc := cell_below HB1.out hc hbl
  have HIN := Lib.hid (show (decide (0 ≤ part) && decide (part ≤ ws.getD k 0)) = true from hp)
  clear hp
  have g8 : ((ws.length : Int) == 8) = false := by rw [beq_eq_false_iff_ne]; omega
  generalize hxx : ws.getD k 0 = x at *
  go_wp2_with fail
  refine (in_any _ _ _ _ true HIN).mono ?_
  rintro e w' ⟨rfl, rfl⟩
  go_wp2_with fail
  have hpp : 0 ≤ part ∧ part ≤ x := by have := HIN.out; simpa using this
  have e1 : IntKind.i64.wrap (x - part) = x - part := IntWalk.i64_in _ (by omega)
  have j1 : (0 : Int) ≤ (k : Int) := by omega
  have j2 : (k : Int) < (ws.length : Int) := by omega
  have HXX := Lib.hid hxx
  clear hxx HIN
  refine wp_region_noPanic ?_
  refine wp_region_held_drew (S := fun w' => w'.cell? ⟨w.heap.size, 0, none⟩ = some (.slice (some ⟨b, off, none⟩) ws.length c) ∧ w'.cell? ⟨w.heap.size, 1, none⟩ = some (.int .i64 q) ∧ w'.cell? ⟨b, off + k, none⟩ = some (.int .i64 x)) (by kernel_rfl) ?_ (fun hHeld => ?_)
  · exact ⟨x0_0, x0_1, hc⟩
  have hb : Below w1.heap.size w1 w1.drew := (Below.refl _ _).drew
  generalize hwn : w1.drew = v11 at *
  clear hwn
  have sz11 : w1.heap.size ≤ v11.heap.size := hb.size
  replace f1_0 := fro_keep hb x1_0 f1_0
  replace f1_1 := fro_keep hb x1_1 f1_1
  replace x0_0 := cell_keep hb x0_0
  replace x0_1 := cell_keep hb x0_1
  replace x1_0 := cell_keep hb x1_0
  replace x1_1 := cell_keep hb x1_1
  replace hc := cell_keep hb hc
  have HBh11 := Lib.hid (HB1.out.trans (hb.mono (by have := HB1.out.size; omega)))
  clear hb
  refine wpAnyH_take (i := 0) (v := ?_) rfl (by kernel_rfl) (by kernel_rfl) (by kernel_rfl) (fun _ _ _ h => h) (Or.inl ⟨by rfl, ?_⟩) (by assumption) ?_
  rotate_left
  · intro w9 hSw; (try dsimp only at hSw); go_simp; try with_reducible rfl
  try simp only [List.getElem_toArray, List.getElem_cons_succ, List.getElem_cons_zero, Act.put, List.setIfInBounds_toArray, List.set_cons_zero, List.set_cons_succ]
  refine wpAnyH_take (i := 1) (v := ?_) rfl (by kernel_rfl) (by kernel_rfl) (by kernel_rfl) (fun _ _ _ h => h) (Or.inl ⟨by rfl, ?_⟩) (by assumption) ?_
  rotate_left
  · intro w9 hSw; (try dsimp only at hSw); go_simp; try with_reducible rfl
  try simp only [List.getElem_toArray, List.getElem_cons_succ, List.getElem_cons_zero, Act.put, List.setIfInBounds_toArray, List.set_cons_zero, List.set_cons_succ]
  refine wpAnyH_take (i := 3) (v := ?_) rfl (by kernel_rfl) (by kernel_rfl) (by kernel_rfl) (fun _ _ _ h => h) (Or.inl ⟨by rfl, ?_⟩) (by assumption) ?_
  rotate_left
  · intro w9 hSw; (try dsimp only at hSw); go_simp; try with_reducible rfl
  try simp only [List.getElem_toArray, List.getElem_cons_succ, List.getElem_cons_zero, Act.put, List.setIfInBounds_toArray, List.set_cons_zero, List.set_cons_succ]
  refine wpAnyH_take (i := 4) (v := ?_) rfl (by kernel_rfl) (by kernel_rfl) (by kernel_rfl) (fun _ _ _ h => h) (Or.inl ⟨by rfl, ?_⟩) (by assumption) ?_
  rotate_left
  · intro w9 hSw; (try dsimp only at hSw); go_simp; try with_reducible rfl
  try simp only [List.getElem_toArray, List.getElem_cons_succ, List.getElem_cons_zero, Act.put, List.setIfInBounds_toArray, List.set_cons_zero, List.set_cons_succ]
  refine wpAnyH_take (i := 5) (v := ?_) rfl (by kernel_rfl) (by kernel_rfl) (by kernel_rfl) (fun _ _ _ h => h) (Or.inl ⟨by rfl, ?_⟩) (by assumption) ?_
  rotate_left
  · intro w9 hSw; (try dsimp only at hSw); go_simp; try with_reducible rfl
  try simp only [List.getElem_toArray, List.getElem_cons_succ, List.getElem_cons_zero, Act.put, List.setIfInBounds_toArray, List.set_cons_zero, List.set_cons_succ]
  refine wpAnyH_take (i := 6) (v := ?_) rfl (by kernel_rfl) (by kernel_rfl) (by kernel_rfl) (fun _ _ _ h => h) (Or.inl ⟨by rfl, ?_⟩) (by assumption) ?_
  rotate_left
  · intro w9 hSw; (try dsimp only at hSw); go_simp; try with_reducible rfl
  try simp only [List.getElem_toArray, List.getElem_cons_succ, List.getElem_cons_zero, Act.put, List.setIfInBounds_toArray, List.set_cons_zero, List.set_cons_succ]
  refine wpAnyH_take (i := 7) (v := ?_) rfl (by kernel_rfl) (by kernel_rfl) (by kernel_rfl) (fun _ _ _ h => h) (Or.inl ⟨by rfl, ?_⟩) (by assumption) ?_
  rotate_left
  · intro w9 hSw; (try dsimp only at hSw); go_simp; try with_reducible rfl
  try simp only [List.getElem_toArray, List.getElem_cons_succ, List.getElem_cons_zero, Act.put, List.setIfInBounds_toArray, List.set_cons_zero, List.set_cons_succ]
  refine wpAnyH_take (i := 8) (v := ?_) rfl (by kernel_rfl) (by kernel_rfl) (by kernel_rfl) (fun _ _ _ h => h) (Or.inl ⟨by rfl, ?_⟩) (by assumption) ?_
  rotate_left
  · intro w9 hSw; (try dsimp only at hSw); go_simp; try with_reducible rfl
  try simp only [List.getElem_toArray, List.getElem_cons_succ, List.getElem_cons_zero, Act.put, List.setIfInBounds_toArray, List.set_cons_zero, List.set_cons_succ]
  refine wpAnyH_take (i := 9) (v := ?_) rfl (by kernel_rfl) (by kernel_rfl) (by kernel_rfl) (fun _ _ _ h => h) (Or.inl ⟨by rfl, ?_⟩) (by assumption) ?_
  rotate_left
  · intro w9 hSw; (try dsimp only at hSw); go_simp; try with_reducible rfl
  try simp only [List.getElem_toArray, List.getElem_cons_succ, List.getElem_cons_zero, Act.put, List.setIfInBounds_toArray, List.set_cons_zero, List.set_cons_succ]
  refine wpAnyH_take (i := 12) (v := ?_) rfl (by kernel_rfl) (by kernel_rfl) (by kernel_rfl) (fun _ _ _ h => h) (Or.inl ⟨by rfl, ?_⟩) (by assumption) ?_
  rotate_left
  · intro w9 hSw; (try dsimp only at hSw); go_simp; try with_reducible rfl
  try simp only [List.getElem_toArray, List.getElem_cons_succ, List.getElem_cons_zero, Act.put, List.setIfInBounds_toArray, List.set_cons_zero, List.set_cons_succ]
  refine wpAnyH_take (i := 13) (v := ?_) rfl (by kernel_rfl) (by kernel_rfl) (by kernel_rfl) (fun _ _ _ h => h) (Or.inl ⟨by rfl, ?_⟩) (by assumption) ?_
  rotate_left
  · intro w9 hSw; (try dsimp only at hSw); go_simp; try with_reducible rfl
  try simp only [List.getElem_toArray, List.getElem_cons_succ, List.getElem_cons_zero, Act.put, List.setIfInBounds_toArray, List.set_cons_zero, List.set_cons_succ]
  refine wpAnyH_ready (rs := [2, 10, 15]) (by kernel_rfl) (by simp) ?_
  refine AllReadyH.cons rfl (fun K hK => ?_) ?_
  · skip
    clear hHeld
    go_simp
    refine (own1.spec_own (some ⟨b, off, none⟩) ws c _ (Hhr.out.below HBh11.out) hn (by omega)).mono ?_
    rintro e v12 ⟨v, rfl, ho, hb⟩
    obtain ⟨p1, q1, rfl, _, _, _⟩ := ho.slice
    have sz12 : v11.heap.size ≤ v12.heap.size := hb.size
    replace f1_0 := fro_keep hb x1_0 f1_0
    replace f1_1 := fro_keep hb x1_1 f1_1
    replace x0_0 := cell_keep hb x0_0
    replace x0_1 := cell_keep hb x0_1
    replace x1_0 := cell_keep hb x1_0
    replace x1_1 := cell_keep hb x1_1
    replace hc := cell_keep hb hc
    have HBh12 := Lib.hid (HBh11.out.trans (hb.mono (by have := HBh11.out.size; omega)))
    clear hb
    have HO1 := Lib.hid ho
    have szl_HO1 : v11.heap.size ≤ v12.heap.size := sz12
    clear ho
    refine hK.out _ _ ?_ (fun hHeld => ?_)
    · exact ⟨x0_0, x0_1, hc⟩
    clear hK K
    try simp only [List.getElem_toArray, List.getElem_cons_succ, List.getElem_cons_zero, Act.put, List.setIfInBounds_toArray, List.set_cons_zero, List.set_cons_succ]
    refine wpAnyH_ready (rs := [10, 15]) (by kernel_rfl) (by simp) ?_
    refine AllReadyH.cons rfl (fun K hK => ?_) ?_
    · skip
      clear hHeld
      go_simp
      have nw_0 : (v12.alloc (.cells #[.int .i64 (x - part)] 3)).cell? ⟨v12.heap.size, 0, none⟩ = some (.int .i64 (x - part)) := cell_new _ _ _ rfl rfl
      have nw_f0 : (v12.alloc (.cells #[.int .i64 (x - part)] 3)).frozen? ⟨v12.heap.size, 0, none⟩ = false := fro_new _ _ _ rfl
      have hb := below_alloc v12 (.cells #[.int .i64 (x - part)] 3)
      have lt_nw := size_alloc' v12 (.cells #[.int .i64 (x - part)] 3)
      generalize hwn : v12.alloc (.cells #[.int .i64 (x - part)] 3) = v13 at *
      clear hwn
      have sz13 : v12.heap.size ≤ v13.heap.size := hb.size
      replace f1_0 := fro_keep hb x1_0 f1_0
      replace f1_1 := fro_keep hb x1_1 f1_1
      replace x0_0 := cell_keep hb x0_0
      replace x0_1 := cell_keep hb x0_1
      replace x1_0 := cell_keep hb x1_0
      replace x1_1 := cell_keep hb x1_1
      replace hc := cell_keep hb hc
      replace HO1 := Lib.hid (HO1.out.below hb)
      have HBh13 := Lib.hid (HBh12.out.trans (hb.mono (by have := HBh12.out.size; omega)))
      clear hb
      obtain ⟨Bnw, hBnw⟩ : ∃ Bnw : Nat, Bnw = v12.heap.size := ⟨_, rfl⟩
      rw [← hBnw] at nw_0 nw_f0 ⊢
      have hBlnw : Bnw ≤ v12.heap.size ∧ v12.heap.size ≤ Bnw := by omega
      clear hBnw
      refine hK.out _ _ ?_ (fun hHeld => ?_)
      · exact ⟨x0_0, x0_1, hc⟩
      clear hK K
      try simp only [List.getElem_toArray, List.getElem_cons_succ, List.getElem_cons_zero, Act.put, List.setIfInBounds_toArray, List.set_cons_zero, List.set_cons_succ]
      refine wpAnyH_ready (rs := [11, 15]) (by kernel_rfl) (by simp) ?_
      refine AllReadyH.cons rfl (fun K hK => ?_) ?_
      · skip
        clear hHeld
        have hrow14 : ∀ g, (Value.slice p1 ws.length q1).ownBlock = some g → v11.heap.size ≤ g ∧ g < v12.heap.size ∧ g < v13.heap.size := fun g e => HO1.out.lt e
        have hlo14 : v11.heap.size ≤ v13.heap.size := by omega
        refine step_append_lies _ (by rfl) _ _ _ (by rfl) (v11.heap.size) 3 i0 _ 1 8 Try.underlying22 hi hz0 hz1 hz2 rfl (by omega) (.slice p1 ws.length q1) ws.length (ws.map (Value.int .i64)) (by rfl) HO1.out.1 ⟨Bnw, 0, none⟩ 1 1 [.int .i64 (x - part)] (by rfl) (by rfl) (fun j u hj => by (have h7 : j = 0 := by (have := (List.getElem?_eq_some_iff.1 hj).1; simp at this; exact this)); subst h7; simp at hj; subst hj; simpa [Addr.add] using nw_0) (by simp [Value.oneCell']) (by omega) (by unfold maxLen; omega) (by omega) hlo14 v13.heap.size rfl ?_
        intro gg gc v14 hown hg hat hlt9
        have sz14 : v13.heap.size ≤ v14.heap.size := hg.size
        replace f1_0 := fro_grow hg x1_0 f1_0 (fun g e => by have := hrow14 g e; omega)
        replace f1_1 := fro_grow hg x1_1 f1_1 (fun g e => by have := hrow14 g e; omega)
        replace nw_f0 := fro_grow hg nw_0 nw_f0 (fun g e => by have := hrow14 g e; omega)
        replace x0_0 := cell_grow hg x0_0 (fun g e => by have := hrow14 g e; omega)
        replace x0_1 := cell_grow hg x0_1 (fun g e => by have := hrow14 g e; omega)
        replace x1_0 := cell_grow hg x1_0 (fun g e => by have := hrow14 g e; omega)
        replace x1_1 := cell_grow hg x1_1 (fun g e => by have := hrow14 g e; omega)
        replace hc := cell_grow hg hc (fun g e => by have := hrow14 g e; omega)
        replace nw_0 := cell_grow hg nw_0 (fun g e => by have := hrow14 g e; omega)
        have HBh14 := Lib.hid (HBh13.out.grown hg (by have := HBh13.out.size; omega) (fun g e => by have := hrow14 g e; omega))
        have HO2 := Lib.hid (own_narrow hown)
        have hgg14 : (v11.heap.size ≤ gg ∧ gg < v12.heap.size) ∨ gg = v13.heap.size := by (rcases hat with e | e); (have := hrow14 gg e; exact .inl ⟨this.1, this.2.1⟩); exact .inr e
        clear hown hg hat hrow14 HO1
        refine hK.out _ _ ?_ (fun hHeld => ?_)
        · exact ⟨x0_0, x0_1, hc⟩
        clear hK K
        try simp only [List.getElem_toArray, List.getElem_cons_succ, List.getElem_cons_zero, Act.put, List.setIfInBounds_toArray, List.set_cons_zero, List.set_cons_succ]
        refine wpAnyH_take (i := 14) (v := ?_) rfl (by kernel_rfl) (by kernel_rfl) (by kernel_rfl) (fun _ _ _ h => h) (Or.inl ⟨by rfl, ?_⟩) (by assumption) ?_
        rotate_left
        · intro w9 hSw; (try dsimp only at hSw); go_simp; try with_reducible rfl
        try simp only [List.getElem_toArray, List.getElem_cons_succ, List.getElem_cons_zero, Act.put, List.setIfInBounds_toArray, List.set_cons_zero, List.set_cons_succ]
        refine wpAnyH_ready (rs := [15]) (by kernel_rfl) (by simp) ?_
        refine AllReadyH.cons rfl (fun K hK => ?_) AllReadyH.nil
        clear hHeld
        go_simp
        have bx_0 : (v14.alloc (.cells #[.slice none 0 0, .int .i64 0] 27)).cell? ⟨v14.heap.size, 0, none⟩ = some (.slice none 0 0) := cell_new _ _ _ rfl rfl
        have bx_f0 : (v14.alloc (.cells #[.slice none 0 0, .int .i64 0] 27)).frozen? ⟨v14.heap.size, 0, none⟩ = false := fro_new _ _ _ rfl
        have bx_1 : (v14.alloc (.cells #[.slice none 0 0, .int .i64 0] 27)).cell? ⟨v14.heap.size, 1, none⟩ = some (.int .i64 0) := cell_new _ _ _ rfl rfl
        have bx_f1 : (v14.alloc (.cells #[.slice none 0 0, .int .i64 0] 27)).frozen? ⟨v14.heap.size, 1, none⟩ = false := fro_new _ _ _ rfl
        have hb := below_alloc v14 (.cells #[.slice none 0 0, .int .i64 0] 27)
        have lt_bx := size_alloc' v14 (.cells #[.slice none 0 0, .int .i64 0] 27)
        generalize hwn : v14.alloc (.cells #[.slice none 0 0, .int .i64 0] 27) = v15 at *
        clear hwn
        have sz15 : v14.heap.size ≤ v15.heap.size := hb.size
        replace f1_0 := fro_keep hb x1_0 f1_0
        replace f1_1 := fro_keep hb x1_1 f1_1
        replace nw_f0 := fro_keep hb nw_0 nw_f0
        replace x0_0 := cell_keep hb x0_0
        replace x0_1 := cell_keep hb x0_1
        replace x1_0 := cell_keep hb x1_0
        replace x1_1 := cell_keep hb x1_1
        replace hc := cell_keep hb hc
        replace nw_0 := cell_keep hb nw_0
        replace HO2 := Lib.hid (HO2.out.below hb)
        have HBh15 := Lib.hid (HBh14.out.trans (hb.mono (by have := HBh14.out.size; omega)))
        clear hb
        obtain ⟨Bbx, hBbx⟩ : ∃ Bbx : Nat, Bbx = v14.heap.size := ⟨_, rfl⟩
        rw [← hBbx] at bx_0 bx_f0 bx_1 bx_f1 ⊢
        have hBlbx : Bbx ≤ v14.heap.size ∧ v14.heap.size ≤ Bbx := by omega
        clear hBbx
        refine hK.out _ _ ?_ (fun hHeld => ?_)
        · exact ⟨x0_0, x0_1, hc⟩
        clear hK K
        try simp only [List.getElem_toArray, List.getElem_cons_succ, List.getElem_cons_zero, Act.put, List.setIfInBounds_toArray, List.set_cons_zero, List.set_cons_succ]
        refine wpAnyH_ready (rs := [16]) (by kernel_rfl) (by simp) ?_
        refine AllReadyH.cons rfl (fun K hK => ?_) AllReadyH.nil
        clear hHeld
        go_simp
        have hg : v15.grownBy ((v15.setCell ⟨Bbx, 0, none⟩ (.slice (some ⟨gg, 0, none⟩) (ws.length + 1) gc)).setCell ⟨Bbx, 1, none⟩ (.int .i64 q)) (some Bbx) := grown_trans (grown_set v15 Bbx 0 (.slice (some ⟨gg, 0, none⟩) (ws.length + 1) gc)) (grown_set _ Bbx 1 (.int .i64 q))
        have nx0 : ((v15.setCell ⟨Bbx, 0, none⟩ (.slice (some ⟨gg, 0, none⟩) (ws.length + 1) gc)).setCell ⟨Bbx, 1, none⟩ (.int .i64 q)).cell? ⟨Bbx, 0, none⟩ = some (.slice (some ⟨gg, 0, none⟩) (ws.length + 1) gc) := (World.cell?_setCell_other _ _ _ _ (by simp)).trans (World.cell?_setCell_same _ _ _ bx_0)
        have nf0 : ((v15.setCell ⟨Bbx, 0, none⟩ (.slice (some ⟨gg, 0, none⟩) (ws.length + 1) gc)).setCell ⟨Bbx, 1, none⟩ (.int .i64 q)).frozen? ⟨Bbx, 0, none⟩ = false := by simp only [World.frozen?_setCell]; exact bx_f0
        have nx1 : ((v15.setCell ⟨Bbx, 0, none⟩ (.slice (some ⟨gg, 0, none⟩) (ws.length + 1) gc)).setCell ⟨Bbx, 1, none⟩ (.int .i64 q)).cell? ⟨Bbx, 1, none⟩ = some (.int .i64 q) := World.cell?_setCell_same _ _ _ ((World.cell?_setCell_other _ _ _ _ (by simp)).trans bx_1)
        have nf1 : ((v15.setCell ⟨Bbx, 0, none⟩ (.slice (some ⟨gg, 0, none⟩) (ws.length + 1) gc)).setCell ⟨Bbx, 1, none⟩ (.int .i64 q)).frozen? ⟨Bbx, 1, none⟩ = false := by simp only [World.frozen?_setCell]; exact bx_f1
        clear bx_0 bx_f0 bx_1 bx_f1
        generalize hwn : ((v15.setCell ⟨Bbx, 0, none⟩ (.slice (some ⟨gg, 0, none⟩) (ws.length + 1) gc)).setCell ⟨Bbx, 1, none⟩ (.int .i64 q)) = v16 at *
        clear hwn
        have sz16 : v15.heap.size ≤ v16.heap.size := hg.size
        replace f1_0 := fro_grow hg x1_0 f1_0 (fun g e => by (have e2 : Bbx = g := by simpa using e); omega)
        replace f1_1 := fro_grow hg x1_1 f1_1 (fun g e => by (have e2 : Bbx = g := by simpa using e); omega)
        replace nw_f0 := fro_grow hg nw_0 nw_f0 (fun g e => by (have e2 : Bbx = g := by simpa using e); omega)
        replace x0_0 := cell_grow hg x0_0 (fun g e => by (have e2 : Bbx = g := by simpa using e); omega)
        replace x0_1 := cell_grow hg x0_1 (fun g e => by (have e2 : Bbx = g := by simpa using e); omega)
        replace x1_0 := cell_grow hg x1_0 (fun g e => by (have e2 : Bbx = g := by simpa using e); omega)
        replace x1_1 := cell_grow hg x1_1 (fun g e => by (have e2 : Bbx = g := by simpa using e); omega)
        replace hc := cell_grow hg hc (fun g e => by (have e2 : Bbx = g := by simpa using e); omega)
        replace nw_0 := cell_grow hg nw_0 (fun g e => by (have e2 : Bbx = g := by simpa using e); omega)
        replace HO2 := Lib.hid (own_grow hg HO2.out (fun g e => by (have e2 : Bbx = g := by simpa using e); omega))
        have HBh16 := Lib.hid (HBh15.out.grown hg (by have := HBh15.out.size; omega) (fun g e => by (have e2 : Bbx = g := by simpa using e); omega))
        have bx_0 := nx0
        have bx_f0 := nf0
        have bx_1 := nx1
        have bx_f1 := nf1
        clear hg nx0 nf0 nx1 nf1
        refine hK.out _ _ ?_ (fun hHeld => ?_)
        · exact ⟨x0_0, x0_1, hc⟩
        clear hK K
        try simp only [List.getElem_toArray, List.getElem_cons_succ, List.getElem_cons_zero, Act.put, List.setIfInBounds_toArray, List.set_cons_zero, List.set_cons_succ]
        refine wpAnyH_done (by kernel_rfl) ?_ _
        refine NoPanic.normal ?_
        clear hHeld
        have hgn : ws.length + 1 = (ws ++ [x - part]).length := by simp
        have hcl := own_cell HO2.out hgn k (by simp; omega)
        have hfl := own_fro HO2.out hgn k
        have HO3 := Lib.hid (own_put HO2.out hgn k part)
        clear hgn HO2
        have bx_0s := cell_set2 (o' := k) bx_0 (show _ ≠ gg by omega) (.int .i64 part)
        have bx_1s := cell_set2 (o' := k) bx_1 (show _ ≠ gg by omega) (.int .i64 part)
        have x1_0s := cell_set2 (o' := k) x1_0 (show _ ≠ gg by omega) (.int .i64 part)
        have x1_1s := cell_set2 (o' := k) x1_1 (show _ ≠ gg by omega) (.int .i64 part)
        have f1_0s : (v16.setCell ⟨gg, k, none⟩ (.int .i64 part)).frozen? ⟨w.heap.size + 1, 0, none⟩ = false := by rw [World.frozen?_setCell]; exact f1_0
        have f1_1s : (v16.setCell ⟨gg, k, none⟩ (.int .i64 part)).frozen? ⟨w.heap.size + 1, 1, none⟩ = false := by rw [World.frozen?_setCell]; exact f1_1
        have HB6 := Lib.hid (show Below w.heap.size w (v16.setCell ⟨gg, k, none⟩ (.int .i64 part)) from HBh16.out.setCell (by show w.heap.size ≤ gg; omega) _)
        generalize (ws ++ [x - part]).getD k 0 = y at *
        have hnn : k < ws.length + 1 := by omega
        have jnn : (k : Int) < (ws.length : Int) + 1 := by omega
        go_wp2_with fail
        refine bodyPost_ret (v := .tuple #[.agg #[.slice (some ⟨gg, 0, none⟩) (ws.length + 1) gc, .int .i64 q], .bool true]) (by simp [results, Try.results32, go_sem, x1_0s, x1_1s, f1_0s, f1_1s]) rfl ⟨_, rfl, ?_, ?_⟩
        · simp only [size_set] at *; exact ((HO3.out.set (by show w.heap.size + 1 < gg; omega) _).set (by show w.heap.size + 1 < gg; omega) _).mono (by omega) (by omega)
        · exact (HB6.out.setCell (by simp) _).setCell (by simp) _
      refine AllReadyH.cons rfl (fun K hK => ?_) AllReadyH.nil
      clear hHeld
      go_simp
      have bx_0 : (v13.alloc (.cells #[.slice none 0 0, .int .i64 0] 27)).cell? ⟨v13.heap.size, 0, none⟩ = some (.slice none 0 0) := cell_new _ _ _ rfl rfl
      have bx_f0 : (v13.alloc (.cells #[.slice none 0 0, .int .i64 0] 27)).frozen? ⟨v13.heap.size, 0, none⟩ = false := fro_new _ _ _ rfl
      have bx_1 : (v13.alloc (.cells #[.slice none 0 0, .int .i64 0] 27)).cell? ⟨v13.heap.size, 1, none⟩ = some (.int .i64 0) := cell_new _ _ _ rfl rfl
      have bx_f1 : (v13.alloc (.cells #[.slice none 0 0, .int .i64 0] 27)).frozen? ⟨v13.heap.size, 1, none⟩ = false := fro_new _ _ _ rfl
      have hb := below_alloc v13 (.cells #[.slice none 0 0, .int .i64 0] 27)
      have lt_bx := size_alloc' v13 (.cells #[.slice none 0 0, .int .i64 0] 27)
      generalize hwn : v13.alloc (.cells #[.slice none 0 0, .int .i64 0] 27) = v14 at *
      clear hwn
      have sz14 : v13.heap.size ≤ v14.heap.size := hb.size
      replace f1_0 := fro_keep hb x1_0 f1_0
      replace f1_1 := fro_keep hb x1_1 f1_1
      replace nw_f0 := fro_keep hb nw_0 nw_f0
      replace x0_0 := cell_keep hb x0_0
      replace x0_1 := cell_keep hb x0_1
      replace x1_0 := cell_keep hb x1_0
      replace x1_1 := cell_keep hb x1_1
      replace hc := cell_keep hb hc
      replace nw_0 := cell_keep hb nw_0
      replace HO1 := Lib.hid (HO1.out.below hb)
      have HBh14 := Lib.hid (HBh13.out.trans (hb.mono (by have := HBh13.out.size; omega)))
      clear hb
      obtain ⟨Bbx, hBbx⟩ : ∃ Bbx : Nat, Bbx = v13.heap.size := ⟨_, rfl⟩
      rw [← hBbx] at bx_0 bx_f0 bx_1 bx_f1 ⊢
      have hBlbx : Bbx ≤ v13.heap.size ∧ v13.heap.size ≤ Bbx := by omega
      clear hBbx
      refine hK.out _ _ ?_ (fun hHeld => ?_)
      · exact ⟨x0_0, x0_1, hc⟩
      clear hK K
      try simp only [List.getElem_toArray, List.getElem_cons_succ, List.getElem_cons_zero, Act.put, List.setIfInBounds_toArray, List.set_cons_zero, List.set_cons_succ]
      refine wpAnyH_ready (rs := [11]) (by kernel_rfl) (by simp) ?_
      refine AllReadyH.cons rfl (fun K hK => ?_) AllReadyH.nil
      clear hHeld
      have hrow15 : ∀ g, (Value.slice p1 ws.length q1).ownBlock = some g → v11.heap.size ≤ g ∧ g < v12.heap.size ∧ g < v14.heap.size := fun g e => HO1.out.lt e
      have hlo15 : v11.heap.size ≤ v14.heap.size := by omega
      refine step_append_lies _ (by rfl) _ _ _ (by rfl) (v11.heap.size) 3 i0 _ 1 8 Try.underlying22 hi hz0 hz1 hz2 rfl (by omega) (.slice p1 ws.length q1) ws.length (ws.map (Value.int .i64)) (by rfl) HO1.out.1 ⟨Bnw, 0, none⟩ 1 1 [.int .i64 (x - part)] (by rfl) (by rfl) (fun j u hj => by (have h7 : j = 0 := by (have := (List.getElem?_eq_some_iff.1 hj).1; simp at this; exact this)); subst h7; simp at hj; subst hj; simpa [Addr.add] using nw_0) (by simp [Value.oneCell']) (by omega) (by unfold maxLen; omega) (by omega) hlo15 v14.heap.size rfl ?_
      intro gg gc v15 hown hg hat hlt9
      have sz15 : v14.heap.size ≤ v15.heap.size := hg.size
      replace f1_0 := fro_grow hg x1_0 f1_0 (fun g e => by have := hrow15 g e; omega)
      replace f1_1 := fro_grow hg x1_1 f1_1 (fun g e => by have := hrow15 g e; omega)
      replace nw_f0 := fro_grow hg nw_0 nw_f0 (fun g e => by have := hrow15 g e; omega)
      replace bx_f0 := fro_grow hg bx_0 bx_f0 (fun g e => by have := hrow15 g e; omega)
      replace bx_f1 := fro_grow hg bx_1 bx_f1 (fun g e => by have := hrow15 g e; omega)
      replace x0_0 := cell_grow hg x0_0 (fun g e => by have := hrow15 g e; omega)
      replace x0_1 := cell_grow hg x0_1 (fun g e => by have := hrow15 g e; omega)
      replace x1_0 := cell_grow hg x1_0 (fun g e => by have := hrow15 g e; omega)
      replace x1_1 := cell_grow hg x1_1 (fun g e => by have := hrow15 g e; omega)
      replace hc := cell_grow hg hc (fun g e => by have := hrow15 g e; omega)
      replace nw_0 := cell_grow hg nw_0 (fun g e => by have := hrow15 g e; omega)
      replace bx_0 := cell_grow hg bx_0 (fun g e => by have := hrow15 g e; omega)
      replace bx_1 := cell_grow hg bx_1 (fun g e => by have := hrow15 g e; omega)
      have HBh15 := Lib.hid (HBh14.out.grown hg (by have := HBh14.out.size; omega) (fun g e => by have := hrow15 g e; omega))
      have HO2 := Lib.hid (own_narrow hown)
      have hgg15 : (v11.heap.size ≤ gg ∧ gg < v12.heap.size) ∨ gg = v14.heap.size := by (rcases hat with e | e); (have := hrow15 gg e; exact .inl ⟨this.1, this.2.1⟩); exact .inr e
      clear hown hg hat hrow15 HO1
      refine hK.out _ _ ?_ (fun hHeld => ?_)
      · exact ⟨x0_0, x0_1, hc⟩
      clear hK K
      try simp only [List.getElem_toArray, List.getElem_cons_succ, List.getElem_cons_zero, Act.put, List.setIfInBounds_toArray, List.set_cons_zero, List.set_cons_succ]
      refine wpAnyH_take (i := 14) (v := ?_) rfl (by kernel_rfl) (by kernel_rfl) (by kernel_rfl) (fun _ _ _ h => h) (Or.inl ⟨by rfl, ?_⟩) (by assumption) ?_
      rotate_left
      · intro w9 hSw; (try dsimp only at hSw); go_simp; try with_reducible rfl
      try simp only [List.getElem_toArray, List.getElem_cons_succ, List.getElem_cons_zero, Act.put, List.setIfInBounds_toArray, List.set_cons_zero, List.set_cons_succ]
      refine wpAnyH_ready (rs := [16]) (by kernel_rfl) (by simp) ?_
      refine AllReadyH.cons rfl (fun K hK => ?_) AllReadyH.nil
      clear hHeld
      go_simp
      have hg : v15.grownBy ((v15.setCell ⟨Bbx, 0, none⟩ (.slice (some ⟨gg, 0, none⟩) (ws.length + 1) gc)).setCell ⟨Bbx, 1, none⟩ (.int .i64 q)) (some Bbx) := grown_trans (grown_set v15 Bbx 0 (.slice (some ⟨gg, 0, none⟩) (ws.length + 1) gc)) (grown_set _ Bbx 1 (.int .i64 q))
      have nx0 : ((v15.setCell ⟨Bbx, 0, none⟩ (.slice (some ⟨gg, 0, none⟩) (ws.length + 1) gc)).setCell ⟨Bbx, 1, none⟩ (.int .i64 q)).cell? ⟨Bbx, 0, none⟩ = some (.slice (some ⟨gg, 0, none⟩) (ws.length + 1) gc) := (World.cell?_setCell_other _ _ _ _ (by simp)).trans (World.cell?_setCell_same _ _ _ bx_0)
      have nf0 : ((v15.setCell ⟨Bbx, 0, none⟩ (.slice (some ⟨gg, 0, none⟩) (ws.length + 1) gc)).setCell ⟨Bbx, 1, none⟩ (.int .i64 q)).frozen? ⟨Bbx, 0, none⟩ = false := by simp only [World.frozen?_setCell]; exact bx_f0
      have nx1 : ((v15.setCell ⟨Bbx, 0, none⟩ (.slice (some ⟨gg, 0, none⟩) (ws.length + 1) gc)).setCell ⟨Bbx, 1, none⟩ (.int .i64 q)).cell? ⟨Bbx, 1, none⟩ = some (.int .i64 q) := World.cell?_setCell_same _ _ _ ((World.cell?_setCell_other _ _ _ _ (by simp)).trans bx_1)
      have nf1 : ((v15.setCell ⟨Bbx, 0, none⟩ (.slice (some ⟨gg, 0, none⟩) (ws.length + 1) gc)).setCell ⟨Bbx, 1, none⟩ (.int .i64 q)).frozen? ⟨Bbx, 1, none⟩ = false := by simp only [World.frozen?_setCell]; exact bx_f1
      clear bx_0 bx_f0 bx_1 bx_f1
      generalize hwn : ((v15.setCell ⟨Bbx, 0, none⟩ (.slice (some ⟨gg, 0, none⟩) (ws.length + 1) gc)).setCell ⟨Bbx, 1, none⟩ (.int .i64 q)) = v16 at *
      clear hwn
      have sz16 : v15.heap.size ≤ v16.heap.size := hg.size
      replace f1_0 := fro_grow hg x1_0 f1_0 (fun g e => by (have e2 : Bbx = g := by simpa using e); omega)
      replace f1_1 := fro_grow hg x1_1 f1_1 (fun g e => by (have e2 : Bbx = g := by simpa using e); omega)
      replace nw_f0 := fro_grow hg nw_0 nw_f0 (fun g e => by (have e2 : Bbx = g := by simpa using e); omega)
      replace x0_0 := cell_grow hg x0_0 (fun g e => by (have e2 : Bbx = g := by simpa using e); omega)
      replace x0_1 := cell_grow hg x0_1 (fun g e => by (have e2 : Bbx = g := by simpa using e); omega)
      replace x1_0 := cell_grow hg x1_0 (fun g e => by (have e2 : Bbx = g := by simpa using e); omega)
      replace x1_1 := cell_grow hg x1_1 (fun g e => by (have e2 : Bbx = g := by simpa using e); omega)
      replace hc := cell_grow hg hc (fun g e => by (have e2 : Bbx = g := by simpa using e); omega)
      replace nw_0 := cell_grow hg nw_0 (fun g e => by (have e2 : Bbx = g := by simpa using e); omega)
      replace HO2 := Lib.hid (own_grow hg HO2.out (fun g e => by (have e2 : Bbx = g := by simpa using e); omega))
      have HBh16 := Lib.hid (HBh15.out.grown hg (by have := HBh15.out.size; omega) (fun g e => by (have e2 : Bbx = g := by simpa using e); omega))
      have bx_0 := nx0
      have bx_f0 := nf0
      have bx_1 := nx1
      have bx_f1 := nf1
      clear hg nx0 nf0 nx1 nf1
      refine hK.out _ _ ?_ (fun hHeld => ?_)
      · exact ⟨x0_0, x0_1, hc⟩
      clear hK K
      try simp only [List.getElem_toArray, List.getElem_cons_succ, List.getElem_cons_zero, Act.put, List.setIfInBounds_toArray, List.set_cons_zero, List.set_cons_succ]
      refine wpAnyH_done (by kernel_rfl) ?_ _
      refine NoPanic.normal ?_
      clear hHeld
      have hgn : ws.length + 1 = (ws ++ [x - part]).length := by simp
      have hcl := own_cell HO2.out hgn k (by simp; omega)
      have hfl := own_fro HO2.out hgn k
      have HO3 := Lib.hid (own_put HO2.out hgn k part)
      clear hgn HO2
      have bx_0s := cell_set2 (o' := k) bx_0 (show _ ≠ gg by omega) (.int .i64 part)
      have bx_1s := cell_set2 (o' := k) bx_1 (show _ ≠ gg by omega) (.int .i64 part)
      have x1_0s := cell_set2 (o' := k) x1_0 (show _ ≠ gg by omega) (.int .i64 part)
      have x1_1s := cell_set2 (o' := k) x1_1 (show _ ≠ gg by omega) (.int .i64 part)
      have f1_0s : (v16.setCell ⟨gg, k, none⟩ (.int .i64 part)).frozen? ⟨w.heap.size + 1, 0, none⟩ = false := by rw [World.frozen?_setCell]; exact f1_0
      have f1_1s : (v16.setCell ⟨gg, k, none⟩ (.int .i64 part)).frozen? ⟨w.heap.size + 1, 1, none⟩ = false := by rw [World.frozen?_setCell]; exact f1_1
      have HB6 := Lib.hid (show Below w.heap.size w (v16.setCell ⟨gg, k, none⟩ (.int .i64 part)) from HBh16.out.setCell (by show w.heap.size ≤ gg; omega) _)
      generalize (ws ++ [x - part]).getD k 0 = y at *
      have hnn : k < ws.length + 1 := by omega
      have jnn : (k : Int) < (ws.length : Int) + 1 := by omega
      go_wp2_with fail
      refine bodyPost_ret (v := .tuple #[.agg #[.slice (some ⟨gg, 0, none⟩) (ws.length + 1) gc, .int .i64 q], .bool true]) (by simp [results, Try.results32, go_sem, x1_0s, x1_1s, f1_0s, f1_1s]) rfl ⟨_, rfl, ?_, ?_⟩
      · simp only [size_set] at *; exact ((HO3.out.set (by show w.heap.size + 1 < gg; omega) _).set (by show w.heap.size + 1 < gg; omega) _).mono (by omega) (by omega)
      · exact (HB6.out.setCell (by simp) _).setCell (by simp) _
    refine AllReadyH.cons rfl (fun K hK => ?_) AllReadyH.nil
    clear hHeld
    go_simp
    have bx_0 : (v12.alloc (.cells #[.slice none 0 0, .int .i64 0] 27)).cell? ⟨v12.heap.size, 0, none⟩ = some (.slice none 0 0) := cell_new _ _ _ rfl rfl
    have bx_f0 : (v12.alloc (.cells #[.slice none 0 0, .int .i64 0] 27)).frozen? ⟨v12.heap.size, 0, none⟩ = false := fro_new _ _ _ rfl
    have bx_1 : (v12.alloc (.cells #[.slice none 0 0, .int .i64 0] 27)).cell? ⟨v12.heap.size, 1, none⟩ = some (.int .i64 0) := cell_new _ _ _ rfl rfl
    have bx_f1 : (v12.alloc (.cells #[.slice none 0 0, .int .i64 0] 27)).frozen? ⟨v12.heap.size, 1, none⟩ = false := fro_new _ _ _ rfl
    have hb := below_alloc v12 (.cells #[.slice none 0 0, .int .i64 0] 27)
    have lt_bx := size_alloc' v12 (.cells #[.slice none 0 0, .int .i64 0] 27)
    generalize hwn : v12.alloc (.cells #[.slice none 0 0, .int .i64 0] 27) = v13 at *
    clear hwn
    have sz13 : v12.heap.size ≤ v13.heap.size := hb.size
    replace f1_0 := fro_keep hb x1_0 f1_0
    replace f1_1 := fro_keep hb x1_1 f1_1
    replace x0_0 := cell_keep hb x0_0
    replace x0_1 := cell_keep hb x0_1
    replace x1_0 := cell_keep hb x1_0
    replace x1_1 := cell_keep hb x1_1
    replace hc := cell_keep hb hc
    replace HO1 := Lib.hid (HO1.out.below hb)
    have HBh13 := Lib.hid (HBh12.out.trans (hb.mono (by have := HBh12.out.size; omega)))
    clear hb
    obtain ⟨Bbx, hBbx⟩ : ∃ Bbx : Nat, Bbx = v12.heap.size := ⟨_, rfl⟩
    rw [← hBbx] at bx_0 bx_f0 bx_1 bx_f1 ⊢
    have hBlbx : Bbx ≤ v12.heap.size ∧ v12.heap.size ≤ Bbx := by omega
    clear hBbx
    refine hK.out _ _ ?_ (fun hHeld => ?_)
    · exact ⟨x0_0, x0_1, hc⟩
    clear hK K
    try simp only [List.getElem_toArray, List.getElem_cons_succ, List.getElem_cons_zero, Act.put, List.setIfInBounds_toArray, List.set_cons_zero, List.set_cons_succ]
    refine wpAnyH_ready (rs := [10]) (by kernel_rfl) (by simp) ?_
    refine AllReadyH.cons rfl (fun K hK => ?_) AllReadyH.nil
    clear hHeld
    go_simp
    have nw_0 : (v13.alloc (.cells #[.int .i64 (x - part)] 3)).cell? ⟨v13.heap.size, 0, none⟩ = some (.int .i64 (x - part)) := cell_new _ _ _ rfl rfl
    have nw_f0 : (v13.alloc (.cells #[.int .i64 (x - part)] 3)).frozen? ⟨v13.heap.size, 0, none⟩ = false := fro_new _ _ _ rfl
    have hb := below_alloc v13 (.cells #[.int .i64 (x - part)] 3)
    have lt_nw := size_alloc' v13 (.cells #[.int .i64 (x - part)] 3)
    generalize hwn : v13.alloc (.cells #[.int .i64 (x - part)] 3) = v14 at *
    clear hwn
    have sz14 : v13.heap.size ≤ v14.heap.size := hb.size
    replace f1_0 := fro_keep hb x1_0 f1_0
    replace f1_1 := fro_keep hb x1_1 f1_1
    replace bx_f0 := fro_keep hb bx_0 bx_f0
    replace bx_f1 := fro_keep hb bx_1 bx_f1
    replace x0_0 := cell_keep hb x0_0
    replace x0_1 := cell_keep hb x0_1
    replace x1_0 := cell_keep hb x1_0
    replace x1_1 := cell_keep hb x1_1
    replace hc := cell_keep hb hc
    replace bx_0 := cell_keep hb bx_0
    replace bx_1 := cell_keep hb bx_1
    replace HO1 := Lib.hid (HO1.out.below hb)
    have HBh14 := Lib.hid (HBh13.out.trans (hb.mono (by have := HBh13.out.size; omega)))
    clear hb
    obtain ⟨Bnw, hBnw⟩ : ∃ Bnw : Nat, Bnw = v13.heap.size := ⟨_, rfl⟩
    rw [← hBnw] at nw_0 nw_f0 ⊢
    have hBlnw : Bnw ≤ v13.heap.size ∧ v13.heap.size ≤ Bnw := by omega
    clear hBnw
    refine hK.out _ _ ?_ (fun hHeld => ?_)
    · exact ⟨x0_0, x0_1, hc⟩
    clear hK K
    try simp only [List.getElem_toArray, List.getElem_cons_succ, List.getElem_cons_zero, Act.put, List.setIfInBounds_toArray, List.set_cons_zero, List.set_cons_succ]
    refine wpAnyH_ready (rs := [11]) (by kernel_rfl) (by simp) ?_
    refine AllReadyH.cons rfl (fun K hK => ?_) AllReadyH.nil
    clear hHeld
    have hrow15 : ∀ g, (Value.slice p1 ws.length q1).ownBlock = some g → v11.heap.size ≤ g ∧ g < v12.heap.size ∧ g < v14.heap.size := fun g e => HO1.out.lt e
    have hlo15 : v11.heap.size ≤ v14.heap.size := by omega
    refine step_append_lies _ (by rfl) _ _ _ (by rfl) (v11.heap.size) 3 i0 _ 1 8 Try.underlying22 hi hz0 hz1 hz2 rfl (by omega) (.slice p1 ws.length q1) ws.length (ws.map (Value.int .i64)) (by rfl) HO1.out.1 ⟨Bnw, 0, none⟩ 1 1 [.int .i64 (x - part)] (by rfl) (by rfl) (fun j u hj => by (have h7 : j = 0 := by (have := (List.getElem?_eq_some_iff.1 hj).1; simp at this; exact this)); subst h7; simp at hj; subst hj; simpa [Addr.add] using nw_0) (by simp [Value.oneCell']) (by omega) (by unfold maxLen; omega) (by omega) hlo15 v14.heap.size rfl ?_
    intro gg gc v15 hown hg hat hlt9
    have sz15 : v14.heap.size ≤ v15.heap.size := hg.size
    replace f1_0 := fro_grow hg x1_0 f1_0 (fun g e => by have := hrow15 g e; omega)
    replace f1_1 := fro_grow hg x1_1 f1_1 (fun g e => by have := hrow15 g e; omega)
    replace bx_f0 := fro_grow hg bx_0 bx_f0 (fun g e => by have := hrow15 g e; omega)
    replace bx_f1 := fro_grow hg bx_1 bx_f1 (fun g e => by have := hrow15 g e; omega)
    replace nw_f0 := fro_grow hg nw_0 nw_f0 (fun g e => by have := hrow15 g e; omega)
    replace x0_0 := cell_grow hg x0_0 (fun g e => by have := hrow15 g e; omega)
    replace x0_1 := cell_grow hg x0_1 (fun g e => by have := hrow15 g e; omega)
    replace x1_0 := cell_grow hg x1_0 (fun g e => by have := hrow15 g e; omega)
    replace x1_1 := cell_grow hg x1_1 (fun g e => by have := hrow15 g e; omega)
    replace hc := cell_grow hg hc (fun g e => by have := hrow15 g e; omega)
    replace bx_0 := cell_grow hg bx_0 (fun g e => by have := hrow15 g e; omega)
    replace bx_1 := cell_grow hg bx_1 (fun g e => by have := hrow15 g e; omega)
    replace nw_0 := cell_grow hg nw_0 (fun g e => by have := hrow15 g e; omega)
    have HBh15 := Lib.hid (HBh14.out.grown hg (by have := HBh14.out.size; omega) (fun g e => by have := hrow15 g e; omega))
    have HO2 := Lib.hid (own_narrow hown)
    have hgg15 : (v11.heap.size ≤ gg ∧ gg < v12.heap.size) ∨ gg = v14.heap.size := by (rcases hat with e | e); (have := hrow15 gg e; exact .inl ⟨this.1, this.2.1⟩); exact .inr e
    clear hown hg hat hrow15 HO1
    refine hK.out _ _ ?_ (fun hHeld => ?_)
    · exact ⟨x0_0, x0_1, hc⟩
    clear hK K
    try simp only [List.getElem_toArray, List.getElem_cons_succ, List.getElem_cons_zero, Act.put, List.setIfInBounds_toArray, List.set_cons_zero, List.set_cons_succ]
    refine wpAnyH_take (i := 14) (v := ?_) rfl (by kernel_rfl) (by kernel_rfl) (by kernel_rfl) (fun _ _ _ h => h) (Or.inl ⟨by rfl, ?_⟩) (by assumption) ?_
    rotate_left
    · intro w9 hSw; (try dsimp only at hSw); go_simp; try with_reducible rfl
    try simp only [List.getElem_toArray, List.getElem_cons_succ, List.getElem_cons_zero, Act.put, List.setIfInBounds_toArray, List.set_cons_zero, List.set_cons_succ]
    refine wpAnyH_ready (rs := [16]) (by kernel_rfl) (by simp) ?_
    refine AllReadyH.cons rfl (fun K hK => ?_) AllReadyH.nil
    clear hHeld
    go_simp
    have hg : v15.grownBy ((v15.setCell ⟨Bbx, 0, none⟩ (.slice (some ⟨gg, 0, none⟩) (ws.length + 1) gc)).setCell ⟨Bbx, 1, none⟩ (.int .i64 q)) (some Bbx) := grown_trans (grown_set v15 Bbx 0 (.slice (some ⟨gg, 0, none⟩) (ws.length + 1) gc)) (grown_set _ Bbx 1 (.int .i64 q))
    have nx0 : ((v15.setCell ⟨Bbx, 0, none⟩ (.slice (some ⟨gg, 0, none⟩) (ws.length + 1) gc)).setCell ⟨Bbx, 1, none⟩ (.int .i64 q)).cell? ⟨Bbx, 0, none⟩ = some (.slice (some ⟨gg, 0, none⟩) (ws.length + 1) gc) := (World.cell?_setCell_other _ _ _ _ (by simp)).trans (World.cell?_setCell_same _ _ _ bx_0)
    have nf0 : ((v15.setCell ⟨Bbx, 0, none⟩ (.slice (some ⟨gg, 0, none⟩) (ws.length + 1) gc)).setCell ⟨Bbx, 1, none⟩ (.int .i64 q)).frozen? ⟨Bbx, 0, none⟩ = false := by simp only [World.frozen?_setCell]; exact bx_f0
    have nx1 : ((v15.setCell ⟨Bbx, 0, none⟩ (.slice (some ⟨gg, 0, none⟩) (ws.length + 1) gc)).setCell ⟨Bbx, 1, none⟩ (.int .i64 q)).cell? ⟨Bbx, 1, none⟩ = some (.int .i64 q) := World.cell?_setCell_same _ _ _ ((World.cell?_setCell_other _ _ _ _ (by simp)).trans bx_1)
    have nf1 : ((v15.setCell ⟨Bbx, 0, none⟩ (.slice (some ⟨gg, 0, none⟩) (ws.length + 1) gc)).setCell ⟨Bbx, 1, none⟩ (.int .i64 q)).frozen? ⟨Bbx, 1, none⟩ = false := by simp only [World.frozen?_setCell]; exact bx_f1
    clear bx_0 bx_f0 bx_1 bx_f1
    generalize hwn : ((v15.setCell ⟨Bbx, 0, none⟩ (.slice (some ⟨gg, 0, none⟩) (ws.length + 1) gc)).setCell ⟨Bbx, 1, none⟩ (.int .i64 q)) = v16 at *
    clear hwn
    have sz16 : v15.heap.size ≤ v16.heap.size := hg.size
    replace f1_0 := fro_grow hg x1_0 f1_0 (fun g e => by (have e2 : Bbx = g := by simpa using e); omega)
    replace f1_1 := fro_grow hg x1_1 f1_1 (fun g e => by (have e2 : Bbx = g := by simpa using e); omega)
    replace nw_f0 := fro_grow hg nw_0 nw_f0 (fun g e => by (have e2 : Bbx = g := by simpa using e); omega)
    replace x0_0 := cell_grow hg x0_0 (fun g e => by (have e2 : Bbx = g := by simpa using e); omega)
    replace x0_1 := cell_grow hg x0_1 (fun g e => by (have e2 : Bbx = g := by simpa using e); omega)
    replace x1_0 := cell_grow hg x1_0 (fun g e => by (have e2 : Bbx = g := by simpa using e); omega)
    replace x1_1 := cell_grow hg x1_1 (fun g e => by (have e2 : Bbx = g := by simpa using e); omega)
    replace hc := cell_grow hg hc (fun g e => by (have e2 : Bbx = g := by simpa using e); omega)
    replace nw_0 := cell_grow hg nw_0 (fun g e => by (have e2 : Bbx = g := by simpa using e); omega)
    replace HO2 := Lib.hid (own_grow hg HO2.out (fun g e => by (have e2 : Bbx = g := by simpa using e); omega))
    have HBh16 := Lib.hid (HBh15.out.grown hg (by have := HBh15.out.size; omega) (fun g e => by (have e2 : Bbx = g := by simpa using e); omega))
    have bx_0 := nx0
    have bx_f0 := nf0
    have bx_1 := nx1
    have bx_f1 := nf1
    clear hg nx0 nf0 nx1 nf1
    refine hK.out _ _ ?_ (fun hHeld => ?_)
    · exact ⟨x0_0, x0_1, hc⟩
    clear hK K
    try simp only [List.getElem_toArray, List.getElem_cons_succ, List.getElem_cons_zero, Act.put, List.setIfInBounds_toArray, List.set_cons_zero, List.set_cons_succ]
    refine wpAnyH_done (by kernel_rfl) ?_ _
    refine NoPanic.normal ?_
    clear hHeld
    have hgn : ws.length + 1 = (ws ++ [x - part]).length := by simp
    have hcl := own_cell HO2.out hgn k (by simp; omega)
    have hfl := own_fro HO2.out hgn k
    have HO3 := Lib.hid (own_put HO2.out hgn k part)
    clear hgn HO2
    have bx_0s := cell_set2 (o' := k) bx_0 (show _ ≠ gg by omega) (.int .i64 part)
    have bx_1s := cell_set2 (o' := k) bx_1 (show _ ≠ gg by omega) (.int .i64 part)
    have x1_0s := cell_set2 (o' := k) x1_0 (show _ ≠ gg by omega) (.int .i64 part)
    have x1_1s := cell_set2 (o' := k) x1_1 (show _ ≠ gg by omega) (.int .i64 part)
    have f1_0s : (v16.setCell ⟨gg, k, none⟩ (.int .i64 part)).frozen? ⟨w.heap.size + 1, 0, none⟩ = false := by rw [World.frozen?_setCell]; exact f1_0
    have f1_1s : (v16.setCell ⟨gg, k, none⟩ (.int .i64 part)).frozen? ⟨w.heap.size + 1, 1, none⟩ = false := by rw [World.frozen?_setCell]; exact f1_1
    have HB6 := Lib.hid (show Below w.heap.size w (v16.setCell ⟨gg, k, none⟩ (.int .i64 part)) from HBh16.out.setCell (by show w.heap.size ≤ gg; omega) _)
    generalize (ws ++ [x - part]).getD k 0 = y at *
    have hnn : k < ws.length + 1 := by omega
    have jnn : (k : Int) < (ws.length : Int) + 1 := by omega
    go_wp2_with fail
    refine bodyPost_ret (v := .tuple #[.agg #[.slice (some ⟨gg, 0, none⟩) (ws.length + 1) gc, .int .i64 q], .bool true]) (by simp [results, Try.results32, go_sem, x1_0s, x1_1s, f1_0s, f1_1s]) rfl ⟨_, rfl, ?_, ?_⟩
    · simp only [size_set] at *; exact ((HO3.out.set (by show w.heap.size + 1 < gg; omega) _).set (by show w.heap.size + 1 < gg; omega) _).mono (by omega) (by omega)
    · exact (HB6.out.setCell (by simp) _).setCell (by simp) _
  refine AllReadyH.cons rfl (fun K hK => ?_) ?_
  · skip
    clear hHeld
    go_simp
    have nw_0 : (v11.alloc (.cells #[.int .i64 (x - part)] 3)).cell? ⟨v11.heap.size, 0, none⟩ = some (.int .i64 (x - part)) := cell_new _ _ _ rfl rfl
    have nw_f0 : (v11.alloc (.cells #[.int .i64 (x - part)] 3)).frozen? ⟨v11.heap.size, 0, none⟩ = false := fro_new _ _ _ rfl
    have hb := below_alloc v11 (.cells #[.int .i64 (x - part)] 3)
    have lt_nw := size_alloc' v11 (.cells #[.int .i64 (x - part)] 3)
    generalize hwn : v11.alloc (.cells #[.int .i64 (x - part)] 3) = v12 at *
    clear hwn
    have sz12 : v11.heap.size ≤ v12.heap.size := hb.size
    replace f1_0 := fro_keep hb x1_0 f1_0
    replace f1_1 := fro_keep hb x1_1 f1_1
    replace x0_0 := cell_keep hb x0_0
    replace x0_1 := cell_keep hb x0_1
    replace x1_0 := cell_keep hb x1_0
    replace x1_1 := cell_keep hb x1_1
    replace hc := cell_keep hb hc
    have HBh12 := Lib.hid (HBh11.out.trans (hb.mono (by have := HBh11.out.size; omega)))
    clear hb
    obtain ⟨Bnw, hBnw⟩ : ∃ Bnw : Nat, Bnw = v11.heap.size := ⟨_, rfl⟩
    rw [← hBnw] at nw_0 nw_f0 ⊢
    have hBlnw : Bnw ≤ v11.heap.size ∧ v11.heap.size ≤ Bnw := by omega
    clear hBnw
    refine hK.out _ _ ?_ (fun hHeld => ?_)
    · exact ⟨x0_0, x0_1, hc⟩
    clear hK K
    try simp only [List.getElem_toArray, List.getElem_cons_succ, List.getElem_cons_zero, Act.put, List.setIfInBounds_toArray, List.set_cons_zero, List.set_cons_succ]
    refine wpAnyH_ready (rs := [2, 15]) (by kernel_rfl) (by simp) ?_
    refine AllReadyH.cons rfl (fun K hK => ?_) ?_
    · skip
      clear hHeld
      go_simp
      refine (own1.spec_own (some ⟨b, off, none⟩) ws c _ (Hhr.out.below HBh12.out) hn (by omega)).mono ?_
      rintro e v13 ⟨v, rfl, ho, hb⟩
      obtain ⟨p1, q1, rfl, _, _, _⟩ := ho.slice
      have sz13 : v12.heap.size ≤ v13.heap.size := hb.size
      replace f1_0 := fro_keep hb x1_0 f1_0
      replace f1_1 := fro_keep hb x1_1 f1_1
      replace nw_f0 := fro_keep hb nw_0 nw_f0
      replace x0_0 := cell_keep hb x0_0
      replace x0_1 := cell_keep hb x0_1
      replace x1_0 := cell_keep hb x1_0
      replace x1_1 := cell_keep hb x1_1
      replace hc := cell_keep hb hc
      replace nw_0 := cell_keep hb nw_0
      have HBh13 := Lib.hid (HBh12.out.trans (hb.mono (by have := HBh12.out.size; omega)))
      clear hb
      have HO1 := Lib.hid ho
      have szl_HO1 : v12.heap.size ≤ v13.heap.size := sz13
      clear ho
      refine hK.out _ _ ?_ (fun hHeld => ?_)
      · exact ⟨x0_0, x0_1, hc⟩
      clear hK K
      try simp only [List.getElem_toArray, List.getElem_cons_succ, List.getElem_cons_zero, Act.put, List.setIfInBounds_toArray, List.set_cons_zero, List.set_cons_succ]
      refine wpAnyH_ready (rs := [11, 15]) (by kernel_rfl) (by simp) ?_
      refine AllReadyH.cons rfl (fun K hK => ?_) ?_
      · skip
        clear hHeld
        have hrow14 : ∀ g, (Value.slice p1 ws.length q1).ownBlock = some g → v12.heap.size ≤ g ∧ g < v13.heap.size ∧ g < v13.heap.size := fun g e => HO1.out.lt e
        have hlo14 : v12.heap.size ≤ v13.heap.size := by omega
        refine step_append_lies _ (by rfl) _ _ _ (by rfl) (v12.heap.size) 3 i0 _ 1 8 Try.underlying22 hi hz0 hz1 hz2 rfl (by omega) (.slice p1 ws.length q1) ws.length (ws.map (Value.int .i64)) (by rfl) HO1.out.1 ⟨Bnw, 0, none⟩ 1 1 [.int .i64 (x - part)] (by rfl) (by rfl) (fun j u hj => by (have h7 : j = 0 := by (have := (List.getElem?_eq_some_iff.1 hj).1; simp at this; exact this)); subst h7; simp at hj; subst hj; simpa [Addr.add] using nw_0) (by simp [Value.oneCell']) (by omega) (by unfold maxLen; omega) (by omega) hlo14 v13.heap.size rfl ?_
        intro gg gc v14 hown hg hat hlt9
        have sz14 : v13.heap.size ≤ v14.heap.size := hg.size
        replace f1_0 := fro_grow hg x1_0 f1_0 (fun g e => by have := hrow14 g e; omega)
        replace f1_1 := fro_grow hg x1_1 f1_1 (fun g e => by have := hrow14 g e; omega)
        replace nw_f0 := fro_grow hg nw_0 nw_f0 (fun g e => by have := hrow14 g e; omega)
        replace x0_0 := cell_grow hg x0_0 (fun g e => by have := hrow14 g e; omega)
        replace x0_1 := cell_grow hg x0_1 (fun g e => by have := hrow14 g e; omega)
        replace x1_0 := cell_grow hg x1_0 (fun g e => by have := hrow14 g e; omega)
        replace x1_1 := cell_grow hg x1_1 (fun g e => by have := hrow14 g e; omega)
        replace hc := cell_grow hg hc (fun g e => by have := hrow14 g e; omega)
        replace nw_0 := cell_grow hg nw_0 (fun g e => by have := hrow14 g e; omega)
        have HBh14 := Lib.hid (HBh13.out.grown hg (by have := HBh13.out.size; omega) (fun g e => by have := hrow14 g e; omega))
        have HO2 := Lib.hid (own_narrow hown)
        have hgg14 : (v12.heap.size ≤ gg ∧ gg < v13.heap.size) ∨ gg = v13.heap.size := by (rcases hat with e | e); (have := hrow14 gg e; exact .inl ⟨this.1, this.2.1⟩); exact .inr e
        clear hown hg hat hrow14 HO1
        refine hK.out _ _ ?_ (fun hHeld => ?_)
        · exact ⟨x0_0, x0_1, hc⟩
        clear hK K
        try simp only [List.getElem_toArray, List.getElem_cons_succ, List.getElem_cons_zero, Act.put, List.setIfInBounds_toArray, List.set_cons_zero, List.set_cons_succ]
        refine wpAnyH_take (i := 14) (v := ?_) rfl (by kernel_rfl) (by kernel_rfl) (by kernel_rfl) (fun _ _ _ h => h) (Or.inl ⟨by rfl, ?_⟩) (by assumption) ?_
        rotate_left
        · intro w9 hSw; (try dsimp only at hSw); go_simp; try with_reducible rfl
        try simp only [List.getElem_toArray, List.getElem_cons_succ, List.getElem_cons_zero, Act.put, List.setIfInBounds_toArray, List.set_cons_zero, List.set_cons_succ]
        refine wpAnyH_ready (rs := [15]) (by kernel_rfl) (by simp) ?_
        refine AllReadyH.cons rfl (fun K hK => ?_) AllReadyH.nil
        clear hHeld
        go_simp
        have bx_0 : (v14.alloc (.cells #[.slice none 0 0, .int .i64 0] 27)).cell? ⟨v14.heap.size, 0, none⟩ = some (.slice none 0 0) := cell_new _ _ _ rfl rfl
        have bx_f0 : (v14.alloc (.cells #[.slice none 0 0, .int .i64 0] 27)).frozen? ⟨v14.heap.size, 0, none⟩ = false := fro_new _ _ _ rfl
        have bx_1 : (v14.alloc (.cells #[.slice none 0 0, .int .i64 0] 27)).cell? ⟨v14.heap.size, 1, none⟩ = some (.int .i64 0) := cell_new _ _ _ rfl rfl
        have bx_f1 : (v14.alloc (.cells #[.slice none 0 0, .int .i64 0] 27)).frozen? ⟨v14.heap.size, 1, none⟩ = false := fro_new _ _ _ rfl
        have hb := below_alloc v14 (.cells #[.slice none 0 0, .int .i64 0] 27)
        have lt_bx := size_alloc' v14 (.cells #[.slice none 0 0, .int .i64 0] 27)
        generalize hwn : v14.alloc (.cells #[.slice none 0 0, .int .i64 0] 27) = v15 at *
        clear hwn
        have sz15 : v14.heap.size ≤ v15.heap.size := hb.size
        replace f1_0 := fro_keep hb x1_0 f1_0
        replace f1_1 := fro_keep hb x1_1 f1_1
        replace nw_f0 := fro_keep hb nw_0 nw_f0
        replace x0_0 := cell_keep hb x0_0
        replace x0_1 := cell_keep hb x0_1
        replace x1_0 := cell_keep hb x1_0
        replace x1_1 := cell_keep hb x1_1
        replace hc := cell_keep hb hc
        replace nw_0 := cell_keep hb nw_0
        replace HO2 := Lib.hid (HO2.out.below hb)
        have HBh15 := Lib.hid (HBh14.out.trans (hb.mono (by have := HBh14.out.size; omega)))
        clear hb
        obtain ⟨Bbx, hBbx⟩ : ∃ Bbx : Nat, Bbx = v14.heap.size := ⟨_, rfl⟩
        rw [← hBbx] at bx_0 bx_f0 bx_1 bx_f1 ⊢
        have hBlbx : Bbx ≤ v14.heap.size ∧ v14.heap.size ≤ Bbx := by omega
        clear hBbx
        refine hK.out _ _ ?_ (fun hHeld => ?_)
        · exact ⟨x0_0, x0_1, hc⟩
        clear hK K
        try simp only [List.getElem_toArray, List.getElem_cons_succ, List.getElem_cons_zero, Act.put, List.setIfInBounds_toArray, List.set_cons_zero, List.set_cons_succ]
        refine wpAnyH_ready (rs := [16]) (by kernel_rfl) (by simp) ?_
        refine AllReadyH.cons rfl (fun K hK => ?_) AllReadyH.nil
        clear hHeld
        go_simp
        have hg : v15.grownBy ((v15.setCell ⟨Bbx, 0, none⟩ (.slice (some ⟨gg, 0, none⟩) (ws.length + 1) gc)).setCell ⟨Bbx, 1, none⟩ (.int .i64 q)) (some Bbx) := grown_trans (grown_set v15 Bbx 0 (.slice (some ⟨gg, 0, none⟩) (ws.length + 1) gc)) (grown_set _ Bbx 1 (.int .i64 q))
        have nx0 : ((v15.setCell ⟨Bbx, 0, none⟩ (.slice (some ⟨gg, 0, none⟩) (ws.length + 1) gc)).setCell ⟨Bbx, 1, none⟩ (.int .i64 q)).cell? ⟨Bbx, 0, none⟩ = some (.slice (some ⟨gg, 0, none⟩) (ws.length + 1) gc) := (World.cell?_setCell_other _ _ _ _ (by simp)).trans (World.cell?_setCell_same _ _ _ bx_0)
        have nf0 : ((v15.setCell ⟨Bbx, 0, none⟩ (.slice (some ⟨gg, 0, none⟩) (ws.length + 1) gc)).setCell ⟨Bbx, 1, none⟩ (.int .i64 q)).frozen? ⟨Bbx, 0, none⟩ = false := by simp only [World.frozen?_setCell]; exact bx_f0
        have nx1 : ((v15.setCell ⟨Bbx, 0, none⟩ (.slice (some ⟨gg, 0, none⟩) (ws.length + 1) gc)).setCell ⟨Bbx, 1, none⟩ (.int .i64 q)).cell? ⟨Bbx, 1, none⟩ = some (.int .i64 q) := World.cell?_setCell_same _ _ _ ((World.cell?_setCell_other _ _ _ _ (by simp)).trans bx_1)
        have nf1 : ((v15.setCell ⟨Bbx, 0, none⟩ (.slice (some ⟨gg, 0, none⟩) (ws.length + 1) gc)).setCell ⟨Bbx, 1, none⟩ (.int .i64 q)).frozen? ⟨Bbx, 1, none⟩ = false := by simp only [World.frozen?_setCell]; exact bx_f1
        clear bx_0 bx_f0 bx_1 bx_f1
        generalize hwn : ((v15.setCell ⟨Bbx, 0, none⟩ (.slice (some ⟨gg, 0, none⟩) (ws.length + 1) gc)).setCell ⟨Bbx, 1, none⟩ (.int .i64 q)) = v16 at *
        clear hwn
        have sz16 : v15.heap.size ≤ v16.heap.size := hg.size
        replace f1_0 := fro_grow hg x1_0 f1_0 (fun g e => by (have e2 : Bbx = g := by simpa using e); omega)
        replace f1_1 := fro_grow hg x1_1 f1_1 (fun g e => by (have e2 : Bbx = g := by simpa using e); omega)
        replace nw_f0 := fro_grow hg nw_0 nw_f0 (fun g e => by (have e2 : Bbx = g := by simpa using e); omega)
        replace x0_0 := cell_grow hg x0_0 (fun g e => by (have e2 : Bbx = g := by simpa using e); omega)
        replace x0_1 := cell_grow hg x0_1 (fun g e => by (have e2 : Bbx = g := by simpa using e); omega)
        replace x1_0 := cell_grow hg x1_0 (fun g e => by (have e2 : Bbx = g := by simpa using e); omega)
        replace x1_1 := cell_grow hg x1_1 (fun g e => by (have e2 : Bbx = g := by simpa using e); omega)
        replace hc := cell_grow hg hc (fun g e => by (have e2 : Bbx = g := by simpa using e); omega)
        replace nw_0 := cell_grow hg nw_0 (fun g e => by (have e2 : Bbx = g := by simpa using e); omega)
        replace HO2 := Lib.hid (own_grow hg HO2.out (fun g e => by (have e2 : Bbx = g := by simpa using e); omega))
        have HBh16 := Lib.hid (HBh15.out.grown hg (by have := HBh15.out.size; omega) (fun g e => by (have e2 : Bbx = g := by simpa using e); omega))
        have bx_0 := nx0
        have bx_f0 := nf0
        have bx_1 := nx1
        have bx_f1 := nf1
        clear hg nx0 nf0 nx1 nf1
        refine hK.out _ _ ?_ (fun hHeld => ?_)
        · exact ⟨x0_0, x0_1, hc⟩
        clear hK K
        try simp only [List.getElem_toArray, List.getElem_cons_succ, List.getElem_cons_zero, Act.put, List.setIfInBounds_toArray, List.set_cons_zero, List.set_cons_succ]
        refine wpAnyH_done (by kernel_rfl) ?_ _
        refine NoPanic.normal ?_
        clear hHeld
        have hgn : ws.length + 1 = (ws ++ [x - part]).length := by simp
        have hcl := own_cell HO2.out hgn k (by simp; omega)
        have hfl := own_fro HO2.out hgn k
        have HO3 := Lib.hid (own_put HO2.out hgn k part)
        clear hgn HO2
        have bx_0s := cell_set2 (o' := k) bx_0 (show _ ≠ gg by omega) (.int .i64 part)
        have bx_1s := cell_set2 (o' := k) bx_1 (show _ ≠ gg by omega) (.int .i64 part)
        have x1_0s := cell_set2 (o' := k) x1_0 (show _ ≠ gg by omega) (.int .i64 part)
        have x1_1s := cell_set2 (o' := k) x1_1 (show _ ≠ gg by omega) (.int .i64 part)
        have f1_0s : (v16.setCell ⟨gg, k, none⟩ (.int .i64 part)).frozen? ⟨w.heap.size + 1, 0, none⟩ = false := by rw [World.frozen?_setCell]; exact f1_0
        have f1_1s : (v16.setCell ⟨gg, k, none⟩ (.int .i64 part)).frozen? ⟨w.heap.size + 1, 1, none⟩ = false := by rw [World.frozen?_setCell]; exact f1_1
        have HB6 := Lib.hid (show Below w.heap.size w (v16.setCell ⟨gg, k, none⟩ (.int .i64 part)) from HBh16.out.setCell (by show w.heap.size ≤ gg; omega) _)
        generalize (ws ++ [x - part]).getD k 0 = y at *
        have hnn : k < ws.length + 1 := by omega
        have jnn : (k : Int) < (ws.length : Int) + 1 := by omega
        go_wp2_with fail
        refine bodyPost_ret (v := .tuple #[.agg #[.slice (some ⟨gg, 0, none⟩) (ws.length + 1) gc, .int .i64 q], .bool true]) (by simp [results, Try.results32, go_sem, x1_0s, x1_1s, f1_0s, f1_1s]) rfl ⟨_, rfl, ?_, ?_⟩
        · simp only [size_set] at *; exact ((HO3.out.set (by show w.heap.size + 1 < gg; omega) _).set (by show w.heap.size + 1 < gg; omega) _).mono (by omega) (by omega)
        · exact (HB6.out.setCell (by simp) _).setCell (by simp) _
      refine AllReadyH.cons rfl (fun K hK => ?_) AllReadyH.nil
      clear hHeld
      go_simp
      have bx_0 : (v13.alloc (.cells #[.slice none 0 0, .int .i64 0] 27)).cell? ⟨v13.heap.size, 0, none⟩ = some (.slice none 0 0) := cell_new _ _ _ rfl rfl
      have bx_f0 : (v13.alloc (.cells #[.slice none 0 0, .int .i64 0] 27)).frozen? ⟨v13.heap.size, 0, none⟩ = false := fro_new _ _ _ rfl
      have bx_1 : (v13.alloc (.cells #[.slice none 0 0, .int .i64 0] 27)).cell? ⟨v13.heap.size, 1, none⟩ = some (.int .i64 0) := cell_new _ _ _ rfl rfl
      have bx_f1 : (v13.alloc (.cells #[.slice none 0 0, .int .i64 0] 27)).frozen? ⟨v13.heap.size, 1, none⟩ = false := fro_new _ _ _ rfl
      have hb := below_alloc v13 (.cells #[.slice none 0 0, .int .i64 0] 27)
      have lt_bx := size_alloc' v13 (.cells #[.slice none 0 0, .int .i64 0] 27)
      generalize hwn : v13.alloc (.cells #[.slice none 0 0, .int .i64 0] 27) = v14 at *
      clear hwn
      have sz14 : v13.heap.size ≤ v14.heap.size := hb.size
      replace f1_0 := fro_keep hb x1_0 f1_0
      replace f1_1 := fro_keep hb x1_1 f1_1
      replace nw_f0 := fro_keep hb nw_0 nw_f0
      replace x0_0 := cell_keep hb x0_0
      replace x0_1 := cell_keep hb x0_1
      replace x1_0 := cell_keep hb x1_0
      replace x1_1 := cell_keep hb x1_1
      replace hc := cell_keep hb hc
      replace nw_0 := cell_keep hb nw_0
      replace HO1 := Lib.hid (HO1.out.below hb)
      have HBh14 := Lib.hid (HBh13.out.trans (hb.mono (by have := HBh13.out.size; omega)))
      clear hb
      obtain ⟨Bbx, hBbx⟩ : ∃ Bbx : Nat, Bbx = v13.heap.size := ⟨_, rfl⟩
      rw [← hBbx] at bx_0 bx_f0 bx_1 bx_f1 ⊢
      have hBlbx : Bbx ≤ v13.heap.size ∧ v13.heap.size ≤ Bbx := by omega
      clear hBbx
      refine hK.out _ _ ?_ (fun hHeld => ?_)
      · exact ⟨x0_0, x0_1, hc⟩
      clear hK K
      try simp only [List.getElem_toArray, List.getElem_cons_succ, List.getElem_cons_zero, Act.put, List.setIfInBounds_toArray, List.set_cons_zero, List.set_cons_succ]
      refine wpAnyH_ready (rs := [11]) (by kernel_rfl) (by simp) ?_
      refine AllReadyH.cons rfl (fun K hK => ?_) AllReadyH.nil
      clear hHeld
      have hrow15 : ∀ g, (Value.slice p1 ws.length q1).ownBlock = some g → v12.heap.size ≤ g ∧ g < v13.heap.size ∧ g < v14.heap.size := fun g e => HO1.out.lt e
      have hlo15 : v12.heap.size ≤ v14.heap.size := by omega
      refine step_append_lies _ (by rfl) _ _ _ (by rfl) (v12.heap.size) 3 i0 _ 1 8 Try.underlying22 hi hz0 hz1 hz2 rfl (by omega) (.slice p1 ws.length q1) ws.length (ws.map (Value.int .i64)) (by rfl) HO1.out.1 ⟨Bnw, 0, none⟩ 1 1 [.int .i64 (x - part)] (by rfl) (by rfl) (fun j u hj => by (have h7 : j = 0 := by (have := (List.getElem?_eq_some_iff.1 hj).1; simp at this; exact this)); subst h7; simp at hj; subst hj; simpa [Addr.add] using nw_0) (by simp [Value.oneCell']) (by omega) (by unfold maxLen; omega) (by omega) hlo15 v14.heap.size rfl ?_
      intro gg gc v15 hown hg hat hlt9
      have sz15 : v14.heap.size ≤ v15.heap.size := hg.size
      replace f1_0 := fro_grow hg x1_0 f1_0 (fun g e => by have := hrow15 g e; omega)
      replace f1_1 := fro_grow hg x1_1 f1_1 (fun g e => by have := hrow15 g e; omega)
      replace nw_f0 := fro_grow hg nw_0 nw_f0 (fun g e => by have := hrow15 g e; omega)
      replace bx_f0 := fro_grow hg bx_0 bx_f0 (fun g e => by have := hrow15 g e; omega)
      replace bx_f1 := fro_grow hg bx_1 bx_f1 (fun g e => by have := hrow15 g e; omega)
      replace x0_0 := cell_grow hg x0_0 (fun g e => by have := hrow15 g e; omega)
      replace x0_1 := cell_grow hg x0_1 (fun g e => by have := hrow15 g e; omega)
      replace x1_0 := cell_grow hg x1_0 (fun g e => by have := hrow15 g e; omega)
      replace x1_1 := cell_grow hg x1_1 (fun g e => by have := hrow15 g e; omega)
      replace hc := cell_grow hg hc (fun g e => by have := hrow15 g e; omega)
      replace nw_0 := cell_grow hg nw_0 (fun g e => by have := hrow15 g e; omega)
      replace bx_0 := cell_grow hg bx_0 (fun g e => by have := hrow15 g e; omega)
      replace bx_1 := cell_grow hg bx_1 (fun g e => by have := hrow15 g e; omega)
      have HBh15 := Lib.hid (HBh14.out.grown hg (by have := HBh14.out.size; omega) (fun g e => by have := hrow15 g e; omega))
      have HO2 := Lib.hid (own_narrow hown)
      have hgg15 : (v12.heap.size ≤ gg ∧ gg < v13.heap.size) ∨ gg = v14.heap.size := by (rcases hat with e | e); (have := hrow15 gg e; exact .inl ⟨this.1, this.2.1⟩); exact .inr e
      clear hown hg hat hrow15 HO1
      refine hK.out _ _ ?_ (fun hHeld => ?_)
      · exact ⟨x0_0, x0_1, hc⟩
      clear hK K
      try simp only [List.getElem_toArray, List.getElem_cons_succ, List.getElem_cons_zero, Act.put, List.setIfInBounds_toArray, List.set_cons_zero, List.set_cons_succ]
      refine wpAnyH_take (i := 14) (v := ?_) rfl (by kernel_rfl) (by kernel_rfl) (by kernel_rfl) (fun _ _ _ h => h) (Or.inl ⟨by rfl, ?_⟩) (by assumption) ?_
      rotate_left
      · intro w9 hSw; (try dsimp only at hSw); go_simp; try with_reducible rfl
      try simp only [List.getElem_toArray, List.getElem_cons_succ, List.getElem_cons_zero, Act.put, List.setIfInBounds_toArray, List.set_cons_zero, List.set_cons_succ]
      refine wpAnyH_ready (rs := [16]) (by kernel_rfl) (by simp) ?_
      refine AllReadyH.cons rfl (fun K hK => ?_) AllReadyH.nil
      clear hHeld
      go_simp
      have hg : v15.grownBy ((v15.setCell ⟨Bbx, 0, none⟩ (.slice (some ⟨gg, 0, none⟩) (ws.length + 1) gc)).setCell ⟨Bbx, 1, none⟩ (.int .i64 q)) (some Bbx) := grown_trans (grown_set v15 Bbx 0 (.slice (some ⟨gg, 0, none⟩) (ws.length + 1) gc)) (grown_set _ Bbx 1 (.int .i64 q))
      have nx0 : ((v15.setCell ⟨Bbx, 0, none⟩ (.slice (some ⟨gg, 0, none⟩) (ws.length + 1) gc)).setCell ⟨Bbx, 1, none⟩ (.int .i64 q)).cell? ⟨Bbx, 0, none⟩ = some (.slice (some ⟨gg, 0, none⟩) (ws.length + 1) gc) := (World.cell?_setCell_other _ _ _ _ (by simp)).trans (World.cell?_setCell_same _ _ _ bx_0)
      have nf0 : ((v15.setCell ⟨Bbx, 0, none⟩ (.slice (some ⟨gg, 0, none⟩) (ws.length + 1) gc)).setCell ⟨Bbx, 1, none⟩ (.int .i64 q)).frozen? ⟨Bbx, 0, none⟩ = false := by simp only [World.frozen?_setCell]; exact bx_f0
      have nx1 : ((v15.setCell ⟨Bbx, 0, none⟩ (.slice (some ⟨gg, 0, none⟩) (ws.length + 1) gc)).setCell ⟨Bbx, 1, none⟩ (.int .i64 q)).cell? ⟨Bbx, 1, none⟩ = some (.int .i64 q) := World.cell?_setCell_same _ _ _ ((World.cell?_setCell_other _ _ _ _ (by simp)).trans bx_1)
      have nf1 : ((v15.setCell ⟨Bbx, 0, none⟩ (.slice (some ⟨gg, 0, none⟩) (ws.length + 1) gc)).setCell ⟨Bbx, 1, none⟩ (.int .i64 q)).frozen? ⟨Bbx, 1, none⟩ = false := by simp only [World.frozen?_setCell]; exact bx_f1
      clear bx_0 bx_f0 bx_1 bx_f1
      generalize hwn : ((v15.setCell ⟨Bbx, 0, none⟩ (.slice (some ⟨gg, 0, none⟩) (ws.length + 1) gc)).setCell ⟨Bbx, 1, none⟩ (.int .i64 q)) = v16 at *
      clear hwn
      have sz16 : v15.heap.size ≤ v16.heap.size := hg.size
      replace f1_0 := fro_grow hg x1_0 f1_0 (fun g e => by (have e2 : Bbx = g := by simpa using e); omega)
      replace f1_1 := fro_grow hg x1_1 f1_1 (fun g e => by (have e2 : Bbx = g := by simpa using e); omega)
      replace nw_f0 := fro_grow hg nw_0 nw_f0 (fun g e => by (have e2 : Bbx = g := by simpa using e); omega)
      replace x0_0 := cell_grow hg x0_0 (fun g e => by (have e2 : Bbx = g := by simpa using e); omega)
      replace x0_1 := cell_grow hg x0_1 (fun g e => by (have e2 : Bbx = g := by simpa using e); omega)
      replace x1_0 := cell_grow hg x1_0 (fun g e => by (have e2 : Bbx = g := by simpa using e); omega)
      replace x1_1 := cell_grow hg x1_1 (fun g e => by (have e2 : Bbx = g := by simpa using e); omega)
      replace hc := cell_grow hg hc (fun g e => by (have e2 : Bbx = g := by simpa using e); omega)
      replace nw_0 := cell_grow hg nw_0 (fun g e => by (have e2 : Bbx = g := by simpa using e); omega)
      replace HO2 := Lib.hid (own_grow hg HO2.out (fun g e => by (have e2 : Bbx = g := by simpa using e); omega))
      have HBh16 := Lib.hid (HBh15.out.grown hg (by have := HBh15.out.size; omega) (fun g e => by (have e2 : Bbx = g := by simpa using e); omega))
      have bx_0 := nx0
      have bx_f0 := nf0
      have bx_1 := nx1
      have bx_f1 := nf1
      clear hg nx0 nf0 nx1 nf1
      refine hK.out _ _ ?_ (fun hHeld => ?_)
      · exact ⟨x0_0, x0_1, hc⟩
      clear hK K
      try simp only [List.getElem_toArray, List.getElem_cons_succ, List.getElem_cons_zero, Act.put, List.setIfInBounds_toArray, List.set_cons_zero, List.set_cons_succ]
      refine wpAnyH_done (by kernel_rfl) ?_ _
      refine NoPanic.normal ?_
      clear hHeld
      have hgn : ws.length + 1 = (ws ++ [x - part]).length := by simp
      have hcl := own_cell HO2.out hgn k (by simp; omega)
      have hfl := own_fro HO2.out hgn k
      have HO3 := Lib.hid (own_put HO2.out hgn k part)
      clear hgn HO2
      have bx_0s := cell_set2 (o' := k) bx_0 (show _ ≠ gg by omega) (.int .i64 part)
      have bx_1s := cell_set2 (o' := k) bx_1 (show _ ≠ gg by omega) (.int .i64 part)
      have x1_0s := cell_set2 (o' := k) x1_0 (show _ ≠ gg by omega) (.int .i64 part)
      have x1_1s := cell_set2 (o' := k) x1_1 (show _ ≠ gg by omega) (.int .i64 part)
      have f1_0s : (v16.setCell ⟨gg, k, none⟩ (.int .i64 part)).frozen? ⟨w.heap.size + 1, 0, none⟩ = false := by rw [World.frozen?_setCell]; exact f1_0
      have f1_1s : (v16.setCell ⟨gg, k, none⟩ (.int .i64 part)).frozen? ⟨w.heap.size + 1, 1, none⟩ = false := by rw [World.frozen?_setCell]; exact f1_1
      have HB6 := Lib.hid (show Below w.heap.size w (v16.setCell ⟨gg, k, none⟩ (.int .i64 part)) from HBh16.out.setCell (by show w.heap.size ≤ gg; omega) _)
      generalize (ws ++ [x - part]).getD k 0 = y at *
      have hnn : k < ws.length + 1 := by omega
      have jnn : (k : Int) < (ws.length : Int) + 1 := by omega
      go_wp2_with fail
      refine bodyPost_ret (v := .tuple #[.agg #[.slice (some ⟨gg, 0, none⟩) (ws.length + 1) gc, .int .i64 q], .bool true]) (by simp [results, Try.results32, go_sem, x1_0s, x1_1s, f1_0s, f1_1s]) rfl ⟨_, rfl, ?_, ?_⟩
      · simp only [size_set] at *; exact ((HO3.out.set (by show w.heap.size + 1 < gg; omega) _).set (by show w.heap.size + 1 < gg; omega) _).mono (by omega) (by omega)
      · exact (HB6.out.setCell (by simp) _).setCell (by simp) _
    refine AllReadyH.cons rfl (fun K hK => ?_) AllReadyH.nil
    clear hHeld
    go_simp
    have bx_0 : (v12.alloc (.cells #[.slice none 0 0, .int .i64 0] 27)).cell? ⟨v12.heap.size, 0, none⟩ = some (.slice none 0 0) := cell_new _ _ _ rfl rfl
    have bx_f0 : (v12.alloc (.cells #[.slice none 0 0, .int .i64 0] 27)).frozen? ⟨v12.heap.size, 0, none⟩ = false := fro_new _ _ _ rfl
    have bx_1 : (v12.alloc (.cells #[.slice none 0 0, .int .i64 0] 27)).cell? ⟨v12.heap.size, 1, none⟩ = some (.int .i64 0) := cell_new _ _ _ rfl rfl
    have bx_f1 : (v12.alloc (.cells #[.slice none 0 0, .int .i64 0] 27)).frozen? ⟨v12.heap.size, 1, none⟩ = false := fro_new _ _ _ rfl
    have hb := below_alloc v12 (.cells #[.slice none 0 0, .int .i64 0] 27)
    have lt_bx := size_alloc' v12 (.cells #[.slice none 0 0, .int .i64 0] 27)
    generalize hwn : v12.alloc (.cells #[.slice none 0 0, .int .i64 0] 27) = v13 at *
    clear hwn
    have sz13 : v12.heap.size ≤ v13.heap.size := hb.size
    replace f1_0 := fro_keep hb x1_0 f1_0
    replace f1_1 := fro_keep hb x1_1 f1_1
    replace nw_f0 := fro_keep hb nw_0 nw_f0
    replace x0_0 := cell_keep hb x0_0
    replace x0_1 := cell_keep hb x0_1
    replace x1_0 := cell_keep hb x1_0
    replace x1_1 := cell_keep hb x1_1
    replace hc := cell_keep hb hc
    replace nw_0 := cell_keep hb nw_0
    have HBh13 := Lib.hid (HBh12.out.trans (hb.mono (by have := HBh12.out.size; omega)))
    clear hb
    obtain ⟨Bbx, hBbx⟩ : ∃ Bbx : Nat, Bbx = v12.heap.size := ⟨_, rfl⟩
    rw [← hBbx] at bx_0 bx_f0 bx_1 bx_f1 ⊢
    have hBlbx : Bbx ≤ v12.heap.size ∧ v12.heap.size ≤ Bbx := by omega
    clear hBbx
    refine hK.out _ _ ?_ (fun hHeld => ?_)
    · exact ⟨x0_0, x0_1, hc⟩
    clear hK K
    try simp only [List.getElem_toArray, List.getElem_cons_succ, List.getElem_cons_zero, Act.put, List.setIfInBounds_toArray, List.set_cons_zero, List.set_cons_succ]
    refine wpAnyH_ready (rs := [2]) (by kernel_rfl) (by simp) ?_
    refine AllReadyH.cons rfl (fun K hK => ?_) AllReadyH.nil
    clear hHeld
    go_simp
    refine (own1.spec_own (some ⟨b, off, none⟩) ws c _ (Hhr.out.below HBh13.out) hn (by omega)).mono ?_
    rintro e v14 ⟨v, rfl, ho, hb⟩
    obtain ⟨p1, q1, rfl, _, _, _⟩ := ho.slice
    have sz14 : v13.heap.size ≤ v14.heap.size := hb.size
    replace f1_0 := fro_keep hb x1_0 f1_0
    replace f1_1 := fro_keep hb x1_1 f1_1
    replace nw_f0 := fro_keep hb nw_0 nw_f0
    replace bx_f0 := fro_keep hb bx_0 bx_f0
    replace bx_f1 := fro_keep hb bx_1 bx_f1
    replace x0_0 := cell_keep hb x0_0
    replace x0_1 := cell_keep hb x0_1
    replace x1_0 := cell_keep hb x1_0
    replace x1_1 := cell_keep hb x1_1
    replace hc := cell_keep hb hc
    replace nw_0 := cell_keep hb nw_0
    replace bx_0 := cell_keep hb bx_0
    replace bx_1 := cell_keep hb bx_1
    have HBh14 := Lib.hid (HBh13.out.trans (hb.mono (by have := HBh13.out.size; omega)))
    clear hb
    have HO1 := Lib.hid ho
    have szl_HO1 : v13.heap.size ≤ v14.heap.size := sz14
    clear ho
    refine hK.out _ _ ?_ (fun hHeld => ?_)
    · exact ⟨x0_0, x0_1, hc⟩
    clear hK K
    try simp only [List.getElem_toArray, List.getElem_cons_succ, List.getElem_cons_zero, Act.put, List.setIfInBounds_toArray, List.set_cons_zero, List.set_cons_succ]
    refine wpAnyH_ready (rs := [11]) (by kernel_rfl) (by simp) ?_
    refine AllReadyH.cons rfl (fun K hK => ?_) AllReadyH.nil
    clear hHeld
    have hrow15 : ∀ g, (Value.slice p1 ws.length q1).ownBlock = some g → v13.heap.size ≤ g ∧ g < v14.heap.size ∧ g < v14.heap.size := fun g e => HO1.out.lt e
    have hlo15 : v13.heap.size ≤ v14.heap.size := by omega
    refine step_append_lies _ (by rfl) _ _ _ (by rfl) (v13.heap.size) 3 i0 _ 1 8 Try.underlying22 hi hz0 hz1 hz2 rfl (by omega) (.slice p1 ws.length q1) ws.length (ws.map (Value.int .i64)) (by rfl) HO1.out.1 ⟨Bnw, 0, none⟩ 1 1 [.int .i64 (x - part)] (by rfl) (by rfl) (fun j u hj => by (have h7 : j = 0 := by (have := (List.getElem?_eq_some_iff.1 hj).1; simp at this; exact this)); subst h7; simp at hj; subst hj; simpa [Addr.add] using nw_0) (by simp [Value.oneCell']) (by omega) (by unfold maxLen; omega) (by omega) hlo15 v14.heap.size rfl ?_
    intro gg gc v15 hown hg hat hlt9
    have sz15 : v14.heap.size ≤ v15.heap.size := hg.size
    replace f1_0 := fro_grow hg x1_0 f1_0 (fun g e => by have := hrow15 g e; omega)
    replace f1_1 := fro_grow hg x1_1 f1_1 (fun g e => by have := hrow15 g e; omega)
    replace nw_f0 := fro_grow hg nw_0 nw_f0 (fun g e => by have := hrow15 g e; omega)
    replace bx_f0 := fro_grow hg bx_0 bx_f0 (fun g e => by have := hrow15 g e; omega)
    replace bx_f1 := fro_grow hg bx_1 bx_f1 (fun g e => by have := hrow15 g e; omega)
    replace x0_0 := cell_grow hg x0_0 (fun g e => by have := hrow15 g e; omega)
    replace x0_1 := cell_grow hg x0_1 (fun g e => by have := hrow15 g e; omega)
    replace x1_0 := cell_grow hg x1_0 (fun g e => by have := hrow15 g e; omega)
    replace x1_1 := cell_grow hg x1_1 (fun g e => by have := hrow15 g e; omega)
    replace hc := cell_grow hg hc (fun g e => by have := hrow15 g e; omega)
    replace nw_0 := cell_grow hg nw_0 (fun g e => by have := hrow15 g e; omega)
    replace bx_0 := cell_grow hg bx_0 (fun g e => by have := hrow15 g e; omega)
    replace bx_1 := cell_grow hg bx_1 (fun g e => by have := hrow15 g e; omega)
    have HBh15 := Lib.hid (HBh14.out.grown hg (by have := HBh14.out.size; omega) (fun g e => by have := hrow15 g e; omega))
    have HO2 := Lib.hid (own_narrow hown)
    have hgg15 : (v13.heap.size ≤ gg ∧ gg < v14.heap.size) ∨ gg = v14.heap.size := by (rcases hat with e | e); (have := hrow15 gg e; exact .inl ⟨this.1, this.2.1⟩); exact .inr e
    clear hown hg hat hrow15 HO1
    refine hK.out _ _ ?_ (fun hHeld => ?_)
    · exact ⟨x0_0, x0_1, hc⟩
    clear hK K
    try simp only [List.getElem_toArray, List.getElem_cons_succ, List.getElem_cons_zero, Act.put, List.setIfInBounds_toArray, List.set_cons_zero, List.set_cons_succ]
    refine wpAnyH_take (i := 14) (v := ?_) rfl (by kernel_rfl) (by kernel_rfl) (by kernel_rfl) (fun _ _ _ h => h) (Or.inl ⟨by rfl, ?_⟩) (by assumption) ?_
    rotate_left
    · intro w9 hSw; (try dsimp only at hSw); go_simp; try with_reducible rfl
    try simp only [List.getElem_toArray, List.getElem_cons_succ, List.getElem_cons_zero, Act.put, List.setIfInBounds_toArray, List.set_cons_zero, List.set_cons_succ]
    refine wpAnyH_ready (rs := [16]) (by kernel_rfl) (by simp) ?_
    refine AllReadyH.cons rfl (fun K hK => ?_) AllReadyH.nil
    clear hHeld
    go_simp
    have hg : v15.grownBy ((v15.setCell ⟨Bbx, 0, none⟩ (.slice (some ⟨gg, 0, none⟩) (ws.length + 1) gc)).setCell ⟨Bbx, 1, none⟩ (.int .i64 q)) (some Bbx) := grown_trans (grown_set v15 Bbx 0 (.slice (some ⟨gg, 0, none⟩) (ws.length + 1) gc)) (grown_set _ Bbx 1 (.int .i64 q))
    have nx0 : ((v15.setCell ⟨Bbx, 0, none⟩ (.slice (some ⟨gg, 0, none⟩) (ws.length + 1) gc)).setCell ⟨Bbx, 1, none⟩ (.int .i64 q)).cell? ⟨Bbx, 0, none⟩ = some (.slice (some ⟨gg, 0, none⟩) (ws.length + 1) gc) := (World.cell?_setCell_other _ _ _ _ (by simp)).trans (World.cell?_setCell_same _ _ _ bx_0)
    have nf0 : ((v15.setCell ⟨Bbx, 0, none⟩ (.slice (some ⟨gg, 0, none⟩) (ws.length + 1) gc)).setCell ⟨Bbx, 1, none⟩ (.int .i64 q)).frozen? ⟨Bbx, 0, none⟩ = false := by simp only [World.frozen?_setCell]; exact bx_f0
    have nx1 : ((v15.setCell ⟨Bbx, 0, none⟩ (.slice (some ⟨gg, 0, none⟩) (ws.length + 1) gc)).setCell ⟨Bbx, 1, none⟩ (.int .i64 q)).cell? ⟨Bbx, 1, none⟩ = some (.int .i64 q) := World.cell?_setCell_same _ _ _ ((World.cell?_setCell_other _ _ _ _ (by simp)).trans bx_1)
    have nf1 : ((v15.setCell ⟨Bbx, 0, none⟩ (.slice (some ⟨gg, 0, none⟩) (ws.length + 1) gc)).setCell ⟨Bbx, 1, none⟩ (.int .i64 q)).frozen? ⟨Bbx, 1, none⟩ = false := by simp only [World.frozen?_setCell]; exact bx_f1
    clear bx_0 bx_f0 bx_1 bx_f1
    generalize hwn : ((v15.setCell ⟨Bbx, 0, none⟩ (.slice (some ⟨gg, 0, none⟩) (ws.length + 1) gc)).setCell ⟨Bbx, 1, none⟩ (.int .i64 q)) = v16 at *
    clear hwn
    have sz16 : v15.heap.size ≤ v16.heap.size := hg.size
    replace f1_0 := fro_grow hg x1_0 f1_0 (fun g e => by (have e2 : Bbx = g := by simpa using e); omega)
    replace f1_1 := fro_grow hg x1_1 f1_1 (fun g e => by (have e2 : Bbx = g := by simpa using e); omega)
    replace nw_f0 := fro_grow hg nw_0 nw_f0 (fun g e => by (have e2 : Bbx = g := by simpa using e); omega)
    replace x0_0 := cell_grow hg x0_0 (fun g e => by (have e2 : Bbx = g := by simpa using e); omega)
    replace x0_1 := cell_grow hg x0_1 (fun g e => by (have e2 : Bbx = g := by simpa using e); omega)
    replace x1_0 := cell_grow hg x1_0 (fun g e => by (have e2 : Bbx = g := by simpa using e); omega)
    replace x1_1 := cell_grow hg x1_1 (fun g e => by (have e2 : Bbx = g := by simpa using e); omega)
    replace hc := cell_grow hg hc (fun g e => by (have e2 : Bbx = g := by simpa using e); omega)
    replace nw_0 := cell_grow hg nw_0 (fun g e => by (have e2 : Bbx = g := by simpa using e); omega)
    replace HO2 := Lib.hid (own_grow hg HO2.out (fun g e => by (have e2 : Bbx = g := by simpa using e); omega))
    have HBh16 := Lib.hid (HBh15.out.grown hg (by have := HBh15.out.size; omega) (fun g e => by (have e2 : Bbx = g := by simpa using e); omega))
    have bx_0 := nx0
    have bx_f0 := nf0
    have bx_1 := nx1
    have bx_f1 := nf1
    clear hg nx0 nf0 nx1 nf1
    refine hK.out _ _ ?_ (fun hHeld => ?_)
    · exact ⟨x0_0, x0_1, hc⟩
    clear hK K
    try simp only [List.getElem_toArray, List.getElem_cons_succ, List.getElem_cons_zero, Act.put, List.setIfInBounds_toArray, List.set_cons_zero, List.set_cons_succ]
    refine wpAnyH_done (by kernel_rfl) ?_ _
    refine NoPanic.normal ?_
    clear hHeld
    have hgn : ws.length + 1 = (ws ++ [x - part]).length := by simp
    have hcl := own_cell HO2.out hgn k (by simp; omega)
    have hfl := own_fro HO2.out hgn k
    have HO3 := Lib.hid (own_put HO2.out hgn k part)
    clear hgn HO2
    have bx_0s := cell_set2 (o' := k) bx_0 (show _ ≠ gg by omega) (.int .i64 part)
    have bx_1s := cell_set2 (o' := k) bx_1 (show _ ≠ gg by omega) (.int .i64 part)
    have x1_0s := cell_set2 (o' := k) x1_0 (show _ ≠ gg by omega) (.int .i64 part)
    have x1_1s := cell_set2 (o' := k) x1_1 (show _ ≠ gg by omega) (.int .i64 part)
    have f1_0s : (v16.setCell ⟨gg, k, none⟩ (.int .i64 part)).frozen? ⟨w.heap.size + 1, 0, none⟩ = false := by rw [World.frozen?_setCell]; exact f1_0
    have f1_1s : (v16.setCell ⟨gg, k, none⟩ (.int .i64 part)).frozen? ⟨w.heap.size + 1, 1, none⟩ = false := by rw [World.frozen?_setCell]; exact f1_1
    have HB6 := Lib.hid (show Below w.heap.size w (v16.setCell ⟨gg, k, none⟩ (.int .i64 part)) from HBh16.out.setCell (by show w.heap.size ≤ gg; omega) _)
    generalize (ws ++ [x - part]).getD k 0 = y at *
    have hnn : k < ws.length + 1 := by omega
    have jnn : (k : Int) < (ws.length : Int) + 1 := by omega
    go_wp2_with fail
    refine bodyPost_ret (v := .tuple #[.agg #[.slice (some ⟨gg, 0, none⟩) (ws.length + 1) gc, .int .i64 q], .bool true]) (by simp [results, Try.results32, go_sem, x1_0s, x1_1s, f1_0s, f1_1s]) rfl ⟨_, rfl, ?_, ?_⟩
    · simp only [size_set] at *; exact ((HO3.out.set (by show w.heap.size + 1 < gg; omega) _).set (by show w.heap.size + 1 < gg; omega) _).mono (by omega) (by omega)
    · exact (HB6.out.setCell (by simp) _).setCell (by simp) _
  refine AllReadyH.cons rfl (fun K hK => ?_) AllReadyH.nil
  clear hHeld
  go_simp
  have bx_0 : (v11.alloc (.cells #[.slice none 0 0, .int .i64 0] 27)).cell? ⟨v11.heap.size, 0, none⟩ = some (.slice none 0 0) := cell_new _ _ _ rfl rfl
  have bx_f0 : (v11.alloc (.cells #[.slice none 0 0, .int .i64 0] 27)).frozen? ⟨v11.heap.size, 0, none⟩ = false := fro_new _ _ _ rfl
  have bx_1 : (v11.alloc (.cells #[.slice none 0 0, .int .i64 0] 27)).cell? ⟨v11.heap.size, 1, none⟩ = some (.int .i64 0) := cell_new _ _ _ rfl rfl
  have bx_f1 : (v11.alloc (.cells #[.slice none 0 0, .int .i64 0] 27)).frozen? ⟨v11.heap.size, 1, none⟩ = false := fro_new _ _ _ rfl
  have hb := below_alloc v11 (.cells #[.slice none 0 0, .int .i64 0] 27)
  have lt_bx := size_alloc' v11 (.cells #[.slice none 0 0, .int .i64 0] 27)
  generalize hwn : v11.alloc (.cells #[.slice none 0 0, .int .i64 0] 27) = v12 at *
  clear hwn
  have sz12 : v11.heap.size ≤ v12.heap.size := hb.size
  replace f1_0 := fro_keep hb x1_0 f1_0
  replace f1_1 := fro_keep hb x1_1 f1_1
  replace x0_0 := cell_keep hb x0_0
  replace x0_1 := cell_keep hb x0_1
  replace x1_0 := cell_keep hb x1_0
  replace x1_1 := cell_keep hb x1_1
  replace hc := cell_keep hb hc
  have HBh12 := Lib.hid (HBh11.out.trans (hb.mono (by have := HBh11.out.size; omega)))
  clear hb
  obtain ⟨Bbx, hBbx⟩ : ∃ Bbx : Nat, Bbx = v11.heap.size := ⟨_, rfl⟩
  rw [← hBbx] at bx_0 bx_f0 bx_1 bx_f1 ⊢
  have hBlbx : Bbx ≤ v11.heap.size ∧ v11.heap.size ≤ Bbx := by omega
  clear hBbx
  refine hK.out _ _ ?_ (fun hHeld => ?_)
  · exact ⟨x0_0, x0_1, hc⟩
  clear hK K
  try simp only [List.getElem_toArray, List.getElem_cons_succ, List.getElem_cons_zero, Act.put, List.setIfInBounds_toArray, List.set_cons_zero, List.set_cons_succ]
  refine wpAnyH_ready (rs := [2, 10]) (by kernel_rfl) (by simp) ?_
  refine AllReadyH.cons rfl (fun K hK => ?_) ?_
  · skip
    clear hHeld
    go_simp
    refine (own1.spec_own (some ⟨b, off, none⟩) ws c _ (Hhr.out.below HBh12.out) hn (by omega)).mono ?_
    rintro e v13 ⟨v, rfl, ho, hb⟩
    obtain ⟨p1, q1, rfl, _, _, _⟩ := ho.slice
    have sz13 : v12.heap.size ≤ v13.heap.size := hb.size
    replace f1_0 := fro_keep hb x1_0 f1_0
    replace f1_1 := fro_keep hb x1_1 f1_1
    replace bx_f0 := fro_keep hb bx_0 bx_f0
    replace bx_f1 := fro_keep hb bx_1 bx_f1
    replace x0_0 := cell_keep hb x0_0
    replace x0_1 := cell_keep hb x0_1
    replace x1_0 := cell_keep hb x1_0
    replace x1_1 := cell_keep hb x1_1
    replace hc := cell_keep hb hc
    replace bx_0 := cell_keep hb bx_0
    replace bx_1 := cell_keep hb bx_1
    have HBh13 := Lib.hid (HBh12.out.trans (hb.mono (by have := HBh12.out.size; omega)))
    clear hb
    have HO1 := Lib.hid ho
    have szl_HO1 : v12.heap.size ≤ v13.heap.size := sz13
    clear ho
    refine hK.out _ _ ?_ (fun hHeld => ?_)
    · exact ⟨x0_0, x0_1, hc⟩
    clear hK K
    try simp only [List.getElem_toArray, List.getElem_cons_succ, List.getElem_cons_zero, Act.put, List.setIfInBounds_toArray, List.set_cons_zero, List.set_cons_succ]
    refine wpAnyH_ready (rs := [10]) (by kernel_rfl) (by simp) ?_
    refine AllReadyH.cons rfl (fun K hK => ?_) AllReadyH.nil
    clear hHeld
    go_simp
    have nw_0 : (v13.alloc (.cells #[.int .i64 (x - part)] 3)).cell? ⟨v13.heap.size, 0, none⟩ = some (.int .i64 (x - part)) := cell_new _ _ _ rfl rfl
    have nw_f0 : (v13.alloc (.cells #[.int .i64 (x - part)] 3)).frozen? ⟨v13.heap.size, 0, none⟩ = false := fro_new _ _ _ rfl
    have hb := below_alloc v13 (.cells #[.int .i64 (x - part)] 3)
    have lt_nw := size_alloc' v13 (.cells #[.int .i64 (x - part)] 3)
    generalize hwn : v13.alloc (.cells #[.int .i64 (x - part)] 3) = v14 at *
    clear hwn
    have sz14 : v13.heap.size ≤ v14.heap.size := hb.size
    replace f1_0 := fro_keep hb x1_0 f1_0
    replace f1_1 := fro_keep hb x1_1 f1_1
    replace bx_f0 := fro_keep hb bx_0 bx_f0
    replace bx_f1 := fro_keep hb bx_1 bx_f1
    replace x0_0 := cell_keep hb x0_0
    replace x0_1 := cell_keep hb x0_1
    replace x1_0 := cell_keep hb x1_0
    replace x1_1 := cell_keep hb x1_1
    replace hc := cell_keep hb hc
    replace bx_0 := cell_keep hb bx_0
    replace bx_1 := cell_keep hb bx_1
    replace HO1 := Lib.hid (HO1.out.below hb)
    have HBh14 := Lib.hid (HBh13.out.trans (hb.mono (by have := HBh13.out.size; omega)))
    clear hb
    obtain ⟨Bnw, hBnw⟩ : ∃ Bnw : Nat, Bnw = v13.heap.size := ⟨_, rfl⟩
    rw [← hBnw] at nw_0 nw_f0 ⊢
    have hBlnw : Bnw ≤ v13.heap.size ∧ v13.heap.size ≤ Bnw := by omega
    clear hBnw
    refine hK.out _ _ ?_ (fun hHeld => ?_)
    · exact ⟨x0_0, x0_1, hc⟩
    clear hK K
    try simp only [List.getElem_toArray, List.getElem_cons_succ, List.getElem_cons_zero, Act.put, List.setIfInBounds_toArray, List.set_cons_zero, List.set_cons_succ]
    refine wpAnyH_ready (rs := [11]) (by kernel_rfl) (by simp) ?_
    refine AllReadyH.cons rfl (fun K hK => ?_) AllReadyH.nil
    clear hHeld
    have hrow15 : ∀ g, (Value.slice p1 ws.length q1).ownBlock = some g → v12.heap.size ≤ g ∧ g < v13.heap.size ∧ g < v14.heap.size := fun g e => HO1.out.lt e
    have hlo15 : v12.heap.size ≤ v14.heap.size := by omega
    refine step_append_lies _ (by rfl) _ _ _ (by rfl) (v12.heap.size) 3 i0 _ 1 8 Try.underlying22 hi hz0 hz1 hz2 rfl (by omega) (.slice p1 ws.length q1) ws.length (ws.map (Value.int .i64)) (by rfl) HO1.out.1 ⟨Bnw, 0, none⟩ 1 1 [.int .i64 (x - part)] (by rfl) (by rfl) (fun j u hj => by (have h7 : j = 0 := by (have := (List.getElem?_eq_some_iff.1 hj).1; simp at this; exact this)); subst h7; simp at hj; subst hj; simpa [Addr.add] using nw_0) (by simp [Value.oneCell']) (by omega) (by unfold maxLen; omega) (by omega) hlo15 v14.heap.size rfl ?_
    intro gg gc v15 hown hg hat hlt9
    have sz15 : v14.heap.size ≤ v15.heap.size := hg.size
    replace f1_0 := fro_grow hg x1_0 f1_0 (fun g e => by have := hrow15 g e; omega)
    replace f1_1 := fro_grow hg x1_1 f1_1 (fun g e => by have := hrow15 g e; omega)
    replace bx_f0 := fro_grow hg bx_0 bx_f0 (fun g e => by have := hrow15 g e; omega)
    replace bx_f1 := fro_grow hg bx_1 bx_f1 (fun g e => by have := hrow15 g e; omega)
    replace nw_f0 := fro_grow hg nw_0 nw_f0 (fun g e => by have := hrow15 g e; omega)
    replace x0_0 := cell_grow hg x0_0 (fun g e => by have := hrow15 g e; omega)
    replace x0_1 := cell_grow hg x0_1 (fun g e => by have := hrow15 g e; omega)
    replace x1_0 := cell_grow hg x1_0 (fun g e => by have := hrow15 g e; omega)
    replace x1_1 := cell_grow hg x1_1 (fun g e => by have := hrow15 g e; omega)
    replace hc := cell_grow hg hc (fun g e => by have := hrow15 g e; omega)
    replace bx_0 := cell_grow hg bx_0 (fun g e => by have := hrow15 g e; omega)
    replace bx_1 := cell_grow hg bx_1 (fun g e => by have := hrow15 g e; omega)
    replace nw_0 := cell_grow hg nw_0 (fun g e => by have := hrow15 g e; omega)
    have HBh15 := Lib.hid (HBh14.out.grown hg (by have := HBh14.out.size; omega) (fun g e => by have := hrow15 g e; omega))
    have HO2 := Lib.hid (own_narrow hown)
    have hgg15 : (v12.heap.size ≤ gg ∧ gg < v13.heap.size) ∨ gg = v14.heap.size := by (rcases hat with e | e); (have := hrow15 gg e; exact .inl ⟨this.1, this.2.1⟩); exact .inr e
    clear hown hg hat hrow15 HO1
    refine hK.out _ _ ?_ (fun hHeld => ?_)
    · exact ⟨x0_0, x0_1, hc⟩
    clear hK K
    try simp only [List.getElem_toArray, List.getElem_cons_succ, List.getElem_cons_zero, Act.put, List.setIfInBounds_toArray, List.set_cons_zero, List.set_cons_succ]
    refine wpAnyH_take (i := 14) (v := ?_) rfl (by kernel_rfl) (by kernel_rfl) (by kernel_rfl) (fun _ _ _ h => h) (Or.inl ⟨by rfl, ?_⟩) (by assumption) ?_
    rotate_left
    · intro w9 hSw; (try dsimp only at hSw); go_simp; try with_reducible rfl
    try simp only [List.getElem_toArray, List.getElem_cons_succ, List.getElem_cons_zero, Act.put, List.setIfInBounds_toArray, List.set_cons_zero, List.set_cons_succ]
    refine wpAnyH_ready (rs := [16]) (by kernel_rfl) (by simp) ?_
    refine AllReadyH.cons rfl (fun K hK => ?_) AllReadyH.nil
    clear hHeld
    go_simp
    have hg : v15.grownBy ((v15.setCell ⟨Bbx, 0, none⟩ (.slice (some ⟨gg, 0, none⟩) (ws.length + 1) gc)).setCell ⟨Bbx, 1, none⟩ (.int .i64 q)) (some Bbx) := grown_trans (grown_set v15 Bbx 0 (.slice (some ⟨gg, 0, none⟩) (ws.length + 1) gc)) (grown_set _ Bbx 1 (.int .i64 q))
    have nx0 : ((v15.setCell ⟨Bbx, 0, none⟩ (.slice (some ⟨gg, 0, none⟩) (ws.length + 1) gc)).setCell ⟨Bbx, 1, none⟩ (.int .i64 q)).cell? ⟨Bbx, 0, none⟩ = some (.slice (some ⟨gg, 0, none⟩) (ws.length + 1) gc) := (World.cell?_setCell_other _ _ _ _ (by simp)).trans (World.cell?_setCell_same _ _ _ bx_0)
    have nf0 : ((v15.setCell ⟨Bbx, 0, none⟩ (.slice (some ⟨gg, 0, none⟩) (ws.length + 1) gc)).setCell ⟨Bbx, 1, none⟩ (.int .i64 q)).frozen? ⟨Bbx, 0, none⟩ = false := by simp only [World.frozen?_setCell]; exact bx_f0
    have nx1 : ((v15.setCell ⟨Bbx, 0, none⟩ (.slice (some ⟨gg, 0, none⟩) (ws.length + 1) gc)).setCell ⟨Bbx, 1, none⟩ (.int .i64 q)).cell? ⟨Bbx, 1, none⟩ = some (.int .i64 q) := World.cell?_setCell_same _ _ _ ((World.cell?_setCell_other _ _ _ _ (by simp)).trans bx_1)
    have nf1 : ((v15.setCell ⟨Bbx, 0, none⟩ (.slice (some ⟨gg, 0, none⟩) (ws.length + 1) gc)).setCell ⟨Bbx, 1, none⟩ (.int .i64 q)).frozen? ⟨Bbx, 1, none⟩ = false := by simp only [World.frozen?_setCell]; exact bx_f1
    clear bx_0 bx_f0 bx_1 bx_f1
    generalize hwn : ((v15.setCell ⟨Bbx, 0, none⟩ (.slice (some ⟨gg, 0, none⟩) (ws.length + 1) gc)).setCell ⟨Bbx, 1, none⟩ (.int .i64 q)) = v16 at *
    clear hwn
    have sz16 : v15.heap.size ≤ v16.heap.size := hg.size
    replace f1_0 := fro_grow hg x1_0 f1_0 (fun g e => by (have e2 : Bbx = g := by simpa using e); omega)
    replace f1_1 := fro_grow hg x1_1 f1_1 (fun g e => by (have e2 : Bbx = g := by simpa using e); omega)
    replace nw_f0 := fro_grow hg nw_0 nw_f0 (fun g e => by (have e2 : Bbx = g := by simpa using e); omega)
    replace x0_0 := cell_grow hg x0_0 (fun g e => by (have e2 : Bbx = g := by simpa using e); omega)
    replace x0_1 := cell_grow hg x0_1 (fun g e => by (have e2 : Bbx = g := by simpa using e); omega)
    replace x1_0 := cell_grow hg x1_0 (fun g e => by (have e2 : Bbx = g := by simpa using e); omega)
    replace x1_1 := cell_grow hg x1_1 (fun g e => by (have e2 : Bbx = g := by simpa using e); omega)
    replace hc := cell_grow hg hc (fun g e => by (have e2 : Bbx = g := by simpa using e); omega)
    replace nw_0 := cell_grow hg nw_0 (fun g e => by (have e2 : Bbx = g := by simpa using e); omega)
    replace HO2 := Lib.hid (own_grow hg HO2.out (fun g e => by (have e2 : Bbx = g := by simpa using e); omega))
    have HBh16 := Lib.hid (HBh15.out.grown hg (by have := HBh15.out.size; omega) (fun g e => by (have e2 : Bbx = g := by simpa using e); omega))
    have bx_0 := nx0
    have bx_f0 := nf0
    have bx_1 := nx1
    have bx_f1 := nf1
    clear hg nx0 nf0 nx1 nf1
    refine hK.out _ _ ?_ (fun hHeld => ?_)
    · exact ⟨x0_0, x0_1, hc⟩
    clear hK K
    try simp only [List.getElem_toArray, List.getElem_cons_succ, List.getElem_cons_zero, Act.put, List.setIfInBounds_toArray, List.set_cons_zero, List.set_cons_succ]
    refine wpAnyH_done (by kernel_rfl) ?_ _
    refine NoPanic.normal ?_
    clear hHeld
    have hgn : ws.length + 1 = (ws ++ [x - part]).length := by simp
    have hcl := own_cell HO2.out hgn k (by simp; omega)
    have hfl := own_fro HO2.out hgn k
    have HO3 := Lib.hid (own_put HO2.out hgn k part)
    clear hgn HO2
    have bx_0s := cell_set2 (o' := k) bx_0 (show _ ≠ gg by omega) (.int .i64 part)
    have bx_1s := cell_set2 (o' := k) bx_1 (show _ ≠ gg by omega) (.int .i64 part)
    have x1_0s := cell_set2 (o' := k) x1_0 (show _ ≠ gg by omega) (.int .i64 part)
    have x1_1s := cell_set2 (o' := k) x1_1 (show _ ≠ gg by omega) (.int .i64 part)
    have f1_0s : (v16.setCell ⟨gg, k, none⟩ (.int .i64 part)).frozen? ⟨w.heap.size + 1, 0, none⟩ = false := by rw [World.frozen?_setCell]; exact f1_0
    have f1_1s : (v16.setCell ⟨gg, k, none⟩ (.int .i64 part)).frozen? ⟨w.heap.size + 1, 1, none⟩ = false := by rw [World.frozen?_setCell]; exact f1_1
    have HB6 := Lib.hid (show Below w.heap.size w (v16.setCell ⟨gg, k, none⟩ (.int .i64 part)) from HBh16.out.setCell (by show w.heap.size ≤ gg; omega) _)
    generalize (ws ++ [x - part]).getD k 0 = y at *
    have hnn : k < ws.length + 1 := by omega
    have jnn : (k : Int) < (ws.length : Int) + 1 := by omega
    go_wp2_with fail
    refine bodyPost_ret (v := .tuple #[.agg #[.slice (some ⟨gg, 0, none⟩) (ws.length + 1) gc, .int .i64 q], .bool true]) (by simp [results, Try.results32, go_sem, x1_0s, x1_1s, f1_0s, f1_1s]) rfl ⟨_, rfl, ?_, ?_⟩
    · simp only [size_set] at *; exact ((HO3.out.set (by show w.heap.size + 1 < gg; omega) _).set (by show w.heap.size + 1 < gg; omega) _).mono (by omega) (by omega)
    · exact (HB6.out.setCell (by simp) _).setCell (by simp) _
  refine AllReadyH.cons rfl (fun K hK => ?_) AllReadyH.nil
  clear hHeld
  go_simp
  have nw_0 : (v12.alloc (.cells #[.int .i64 (x - part)] 3)).cell? ⟨v12.heap.size, 0, none⟩ = some (.int .i64 (x - part)) := cell_new _ _ _ rfl rfl
  have nw_f0 : (v12.alloc (.cells #[.int .i64 (x - part)] 3)).frozen? ⟨v12.heap.size, 0, none⟩ = false := fro_new _ _ _ rfl
  have hb := below_alloc v12 (.cells #[.int .i64 (x - part)] 3)
  have lt_nw := size_alloc' v12 (.cells #[.int .i64 (x - part)] 3)
  generalize hwn : v12.alloc (.cells #[.int .i64 (x - part)] 3) = v13 at *
  clear hwn
  have sz13 : v12.heap.size ≤ v13.heap.size := hb.size
  replace f1_0 := fro_keep hb x1_0 f1_0
  replace f1_1 := fro_keep hb x1_1 f1_1
  replace bx_f0 := fro_keep hb bx_0 bx_f0
  replace bx_f1 := fro_keep hb bx_1 bx_f1
  replace x0_0 := cell_keep hb x0_0
  replace x0_1 := cell_keep hb x0_1
  replace x1_0 := cell_keep hb x1_0
  replace x1_1 := cell_keep hb x1_1
  replace hc := cell_keep hb hc
  replace bx_0 := cell_keep hb bx_0
  replace bx_1 := cell_keep hb bx_1
  have HBh13 := Lib.hid (HBh12.out.trans (hb.mono (by have := HBh12.out.size; omega)))
  clear hb
  obtain ⟨Bnw, hBnw⟩ : ∃ Bnw : Nat, Bnw = v12.heap.size := ⟨_, rfl⟩
  rw [← hBnw] at nw_0 nw_f0 ⊢
  have hBlnw : Bnw ≤ v12.heap.size ∧ v12.heap.size ≤ Bnw := by omega
  clear hBnw
  refine hK.out _ _ ?_ (fun hHeld => ?_)
  · exact ⟨x0_0, x0_1, hc⟩
  clear hK K
  try simp only [List.getElem_toArray, List.getElem_cons_succ, List.getElem_cons_zero, Act.put, List.setIfInBounds_toArray, List.set_cons_zero, List.set_cons_succ]
  refine wpAnyH_ready (rs := [2]) (by kernel_rfl) (by simp) ?_
  refine AllReadyH.cons rfl (fun K hK => ?_) AllReadyH.nil
  clear hHeld
  go_simp
  refine (own1.spec_own (some ⟨b, off, none⟩) ws c _ (Hhr.out.below HBh13.out) hn (by omega)).mono ?_
  rintro e v14 ⟨v, rfl, ho, hb⟩
  obtain ⟨p1, q1, rfl, _, _, _⟩ := ho.slice
  have sz14 : v13.heap.size ≤ v14.heap.size := hb.size
  replace f1_0 := fro_keep hb x1_0 f1_0
  replace f1_1 := fro_keep hb x1_1 f1_1
  replace bx_f0 := fro_keep hb bx_0 bx_f0
  replace bx_f1 := fro_keep hb bx_1 bx_f1
  replace nw_f0 := fro_keep hb nw_0 nw_f0
  replace x0_0 := cell_keep hb x0_0
  replace x0_1 := cell_keep hb x0_1
  replace x1_0 := cell_keep hb x1_0
  replace x1_1 := cell_keep hb x1_1
  replace hc := cell_keep hb hc
  replace bx_0 := cell_keep hb bx_0
  replace bx_1 := cell_keep hb bx_1
  replace nw_0 := cell_keep hb nw_0
  have HBh14 := Lib.hid (HBh13.out.trans (hb.mono (by have := HBh13.out.size; omega)))
  clear hb
  have HO1 := Lib.hid ho
  have szl_HO1 : v13.heap.size ≤ v14.heap.size := sz14
  clear ho
  refine hK.out _ _ ?_ (fun hHeld => ?_)
  · exact ⟨x0_0, x0_1, hc⟩
  clear hK K
  try simp only [List.getElem_toArray, List.getElem_cons_succ, List.getElem_cons_zero, Act.put, List.setIfInBounds_toArray, List.set_cons_zero, List.set_cons_succ]
  refine wpAnyH_ready (rs := [11]) (by kernel_rfl) (by simp) ?_
  refine AllReadyH.cons rfl (fun K hK => ?_) AllReadyH.nil
  clear hHeld
  have hrow15 : ∀ g, (Value.slice p1 ws.length q1).ownBlock = some g → v13.heap.size ≤ g ∧ g < v14.heap.size ∧ g < v14.heap.size := fun g e => HO1.out.lt e
  have hlo15 : v13.heap.size ≤ v14.heap.size := by omega
  refine step_append_lies _ (by rfl) _ _ _ (by rfl) (v13.heap.size) 3 i0 _ 1 8 Try.underlying22 hi hz0 hz1 hz2 rfl (by omega) (.slice p1 ws.length q1) ws.length (ws.map (Value.int .i64)) (by rfl) HO1.out.1 ⟨Bnw, 0, none⟩ 1 1 [.int .i64 (x - part)] (by rfl) (by rfl) (fun j u hj => by (have h7 : j = 0 := by (have := (List.getElem?_eq_some_iff.1 hj).1; simp at this; exact this)); subst h7; simp at hj; subst hj; simpa [Addr.add] using nw_0) (by simp [Value.oneCell']) (by omega) (by unfold maxLen; omega) (by omega) hlo15 v14.heap.size rfl ?_
  intro gg gc v15 hown hg hat hlt9
  have sz15 : v14.heap.size ≤ v15.heap.size := hg.size
  replace f1_0 := fro_grow hg x1_0 f1_0 (fun g e => by have := hrow15 g e; omega)
  replace f1_1 := fro_grow hg x1_1 f1_1 (fun g e => by have := hrow15 g e; omega)
  replace bx_f0 := fro_grow hg bx_0 bx_f0 (fun g e => by have := hrow15 g e; omega)
  replace bx_f1 := fro_grow hg bx_1 bx_f1 (fun g e => by have := hrow15 g e; omega)
  replace nw_f0 := fro_grow hg nw_0 nw_f0 (fun g e => by have := hrow15 g e; omega)
  replace x0_0 := cell_grow hg x0_0 (fun g e => by have := hrow15 g e; omega)
  replace x0_1 := cell_grow hg x0_1 (fun g e => by have := hrow15 g e; omega)
  replace x1_0 := cell_grow hg x1_0 (fun g e => by have := hrow15 g e; omega)
  replace x1_1 := cell_grow hg x1_1 (fun g e => by have := hrow15 g e; omega)
  replace hc := cell_grow hg hc (fun g e => by have := hrow15 g e; omega)
  replace bx_0 := cell_grow hg bx_0 (fun g e => by have := hrow15 g e; omega)
  replace bx_1 := cell_grow hg bx_1 (fun g e => by have := hrow15 g e; omega)
  replace nw_0 := cell_grow hg nw_0 (fun g e => by have := hrow15 g e; omega)
  have HBh15 := Lib.hid (HBh14.out.grown hg (by have := HBh14.out.size; omega) (fun g e => by have := hrow15 g e; omega))
  have HO2 := Lib.hid (own_narrow hown)
  have hgg15 : (v13.heap.size ≤ gg ∧ gg < v14.heap.size) ∨ gg = v14.heap.size := by (rcases hat with e | e); (have := hrow15 gg e; exact .inl ⟨this.1, this.2.1⟩); exact .inr e
  clear hown hg hat hrow15 HO1
  refine hK.out _ _ ?_ (fun hHeld => ?_)
  · exact ⟨x0_0, x0_1, hc⟩
  clear hK K
  try simp only [List.getElem_toArray, List.getElem_cons_succ, List.getElem_cons_zero, Act.put, List.setIfInBounds_toArray, List.set_cons_zero, List.set_cons_succ]
  refine wpAnyH_take (i := 14) (v := ?_) rfl (by kernel_rfl) (by kernel_rfl) (by kernel_rfl) (fun _ _ _ h => h) (Or.inl ⟨by rfl, ?_⟩) (by assumption) ?_
  rotate_left
  · intro w9 hSw; (try dsimp only at hSw); go_simp; try with_reducible rfl
  try simp only [List.getElem_toArray, List.getElem_cons_succ, List.getElem_cons_zero, Act.put, List.setIfInBounds_toArray, List.set_cons_zero, List.set_cons_succ]
  refine wpAnyH_ready (rs := [16]) (by kernel_rfl) (by simp) ?_
  refine AllReadyH.cons rfl (fun K hK => ?_) AllReadyH.nil
  clear hHeld
  go_simp
  have hg : v15.grownBy ((v15.setCell ⟨Bbx, 0, none⟩ (.slice (some ⟨gg, 0, none⟩) (ws.length + 1) gc)).setCell ⟨Bbx, 1, none⟩ (.int .i64 q)) (some Bbx) := grown_trans (grown_set v15 Bbx 0 (.slice (some ⟨gg, 0, none⟩) (ws.length + 1) gc)) (grown_set _ Bbx 1 (.int .i64 q))
  have nx0 : ((v15.setCell ⟨Bbx, 0, none⟩ (.slice (some ⟨gg, 0, none⟩) (ws.length + 1) gc)).setCell ⟨Bbx, 1, none⟩ (.int .i64 q)).cell? ⟨Bbx, 0, none⟩ = some (.slice (some ⟨gg, 0, none⟩) (ws.length + 1) gc) := (World.cell?_setCell_other _ _ _ _ (by simp)).trans (World.cell?_setCell_same _ _ _ bx_0)
  have nf0 : ((v15.setCell ⟨Bbx, 0, none⟩ (.slice (some ⟨gg, 0, none⟩) (ws.length + 1) gc)).setCell ⟨Bbx, 1, none⟩ (.int .i64 q)).frozen? ⟨Bbx, 0, none⟩ = false := by simp only [World.frozen?_setCell]; exact bx_f0
  have nx1 : ((v15.setCell ⟨Bbx, 0, none⟩ (.slice (some ⟨gg, 0, none⟩) (ws.length + 1) gc)).setCell ⟨Bbx, 1, none⟩ (.int .i64 q)).cell? ⟨Bbx, 1, none⟩ = some (.int .i64 q) := World.cell?_setCell_same _ _ _ ((World.cell?_setCell_other _ _ _ _ (by simp)).trans bx_1)
  have nf1 : ((v15.setCell ⟨Bbx, 0, none⟩ (.slice (some ⟨gg, 0, none⟩) (ws.length + 1) gc)).setCell ⟨Bbx, 1, none⟩ (.int .i64 q)).frozen? ⟨Bbx, 1, none⟩ = false := by simp only [World.frozen?_setCell]; exact bx_f1
  clear bx_0 bx_f0 bx_1 bx_f1
  generalize hwn : ((v15.setCell ⟨Bbx, 0, none⟩ (.slice (some ⟨gg, 0, none⟩) (ws.length + 1) gc)).setCell ⟨Bbx, 1, none⟩ (.int .i64 q)) = v16 at *
  clear hwn
  have sz16 : v15.heap.size ≤ v16.heap.size := hg.size
  replace f1_0 := fro_grow hg x1_0 f1_0 (fun g e => by (have e2 : Bbx = g := by simpa using e); omega)
  replace f1_1 := fro_grow hg x1_1 f1_1 (fun g e => by (have e2 : Bbx = g := by simpa using e); omega)
  replace nw_f0 := fro_grow hg nw_0 nw_f0 (fun g e => by (have e2 : Bbx = g := by simpa using e); omega)
  replace x0_0 := cell_grow hg x0_0 (fun g e => by (have e2 : Bbx = g := by simpa using e); omega)
  replace x0_1 := cell_grow hg x0_1 (fun g e => by (have e2 : Bbx = g := by simpa using e); omega)
  replace x1_0 := cell_grow hg x1_0 (fun g e => by (have e2 : Bbx = g := by simpa using e); omega)
  replace x1_1 := cell_grow hg x1_1 (fun g e => by (have e2 : Bbx = g := by simpa using e); omega)
  replace hc := cell_grow hg hc (fun g e => by (have e2 : Bbx = g := by simpa using e); omega)
  replace nw_0 := cell_grow hg nw_0 (fun g e => by (have e2 : Bbx = g := by simpa using e); omega)
  replace HO2 := Lib.hid (own_grow hg HO2.out (fun g e => by (have e2 : Bbx = g := by simpa using e); omega))
  have HBh16 := Lib.hid (HBh15.out.grown hg (by have := HBh15.out.size; omega) (fun g e => by (have e2 : Bbx = g := by simpa using e); omega))
  have bx_0 := nx0
  have bx_f0 := nf0
  have bx_1 := nx1
  have bx_f1 := nf1
  clear hg nx0 nf0 nx1 nf1
  refine hK.out _ _ ?_ (fun hHeld => ?_)
  · exact ⟨x0_0, x0_1, hc⟩
  clear hK K
  try simp only [List.getElem_toArray, List.getElem_cons_succ, List.getElem_cons_zero, Act.put, List.setIfInBounds_toArray, List.set_cons_zero, List.set_cons_succ]
  refine wpAnyH_done (by kernel_rfl) ?_ _
  refine NoPanic.normal ?_
  clear hHeld
  have hgn : ws.length + 1 = (ws ++ [x - part]).length := by simp
  have hcl := own_cell HO2.out hgn k (by simp; omega)
  have hfl := own_fro HO2.out hgn k
  have HO3 := Lib.hid (own_put HO2.out hgn k part)
  clear hgn HO2
  have bx_0s := cell_set2 (o' := k) bx_0 (show _ ≠ gg by omega) (.int .i64 part)
  have bx_1s := cell_set2 (o' := k) bx_1 (show _ ≠ gg by omega) (.int .i64 part)
  have x1_0s := cell_set2 (o' := k) x1_0 (show _ ≠ gg by omega) (.int .i64 part)
  have x1_1s := cell_set2 (o' := k) x1_1 (show _ ≠ gg by omega) (.int .i64 part)
  have f1_0s : (v16.setCell ⟨gg, k, none⟩ (.int .i64 part)).frozen? ⟨w.heap.size + 1, 0, none⟩ = false := by rw [World.frozen?_setCell]; exact f1_0
  have f1_1s : (v16.setCell ⟨gg, k, none⟩ (.int .i64 part)).frozen? ⟨w.heap.size + 1, 1, none⟩ = false := by rw [World.frozen?_setCell]; exact f1_1
  have HB6 := Lib.hid (show Below w.heap.size w (v16.setCell ⟨gg, k, none⟩ (.int .i64 part)) from HBh16.out.setCell (by show w.heap.size ≤ gg; omega) _)
  generalize (ws ++ [x - part]).getD k 0 = y at *
  have hnn : k < ws.length + 1 := by omega
  have jnn : (k : Int) < (ws.length : Int) + 1 := by omega
  go_wp2_with fail
  refine bodyPost_ret (v := .tuple #[.agg #[.slice (some ⟨gg, 0, none⟩) (ws.length + 1) gc, .int .i64 q], .bool true]) (by simp [results, Try.results32, go_sem, x1_0s, x1_1s, f1_0s, f1_1s]) rfl ⟨_, rfl, ?_, ?_⟩
  · simp only [size_set] at *; exact ((HO3.out.set (by show w.heap.size + 1 < gg; omega) _).set (by show w.heap.size + 1 < gg; omega) _).mono (by omega) (by omega)
  · exact (HB6.out.setCell (by simp) _).setCell (by simp) _
end Go.Proofs.Ytcklehfcpengoaa.splitv
