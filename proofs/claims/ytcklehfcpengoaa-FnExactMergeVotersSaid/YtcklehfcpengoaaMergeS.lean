/- The walk of MergeVoters: the model's. -/
import Derived.Test.YtcklehfcpengoaaVoter
import Derived.Test.YtcklehfcpengoaaDualV
import Derived.Test.YtcklehfcpengoaaMergeP
import Derived.Deep.AppendLies
import Derived.Test.YtcklehfcpengoaaSetCell
namespace Go.Proofs.Ytcklehfcpengoaa.merges
open Go.RowKit own pp nums pv voter dualv mergep
set_option linter.unusedVariables false
set_option linter.unusedSimpArgs false

theorem cell_keep {W W' : World} (h : Below W.heap.size W W') {b o : Nat} {x : Value} (hx : W.cell? ⟨b, o, none⟩ = some x) : W'.cell? ⟨b, o, none⟩ = some x :=
  cell_below h hx (block_lt_of_cell (a := ⟨b, o, none⟩) hx)
theorem fro_keep {W W' : World} (h : Below W.heap.size W W') {b o o' : Nat} {x : Value} (hx : W.cell? ⟨b, o', none⟩ = some x) (hf : W.frozen? ⟨b, o, none⟩ = false) : W'.frozen? ⟨b, o, none⟩ = false :=
  fro_below h hf (block_lt_of_cell (a := ⟨b, o', none⟩) hx)
theorem cell_grow {W W' : World} {row : Option Nat} (h : W.grownBy W' row) {b o : Nat} {x : Value} (hx : W.cell? ⟨b, o, none⟩ = some x) (hne : ∀ g, row = some g → b ≠ g) : W'.cell? ⟨b, o, none⟩ = some x :=
  (World.cell?_of_block (h.block b (block_lt_of_cell (a := ⟨b, o, none⟩) hx) (fun e => hne b e.symm rfl))).trans hx
theorem fro_grow {W W' : World} {row : Option Nat} (h : W.grownBy W' row) {b o o' : Nat} {x : Value} (hx : W.cell? ⟨b, o', none⟩ = some x) (hf : W.frozen? ⟨b, o, none⟩ = false) (hne : ∀ g, row = some g → b ≠ g) : W'.frozen? ⟨b, o, none⟩ = false :=
  (World.frozen?_of_block (a := ⟨b, o, none⟩) (h.block b (block_lt_of_cell (a := ⟨b, o', none⟩) hx) (fun e => hne b e.symm rfl))).trans hf
theorem own_grow {W W' : World} {row : Option Nat} (h : W.grownBy W' row) {lo hi : Nat} {v : Value} {zs : List Int} (ho : OwnI lo hi W v zs) (hne : ∀ g, row = some g → g < lo ∨ hi ≤ g) : OwnI lo hi W' v zs :=
  ho.block fun g hg => h.block g (ho.lt hg).2.2 (fun e => by have := hne g e.symm; have := ho.lt hg; omega)
theorem cell_set2 {W : World} {b o b' o' : Nat} {x : Value} (hx : W.cell? ⟨b, o, none⟩ = some x) (hne : b ≠ b') (u : Value) : (W.setCell ⟨b', o', none⟩ u).cell? ⟨b, o, none⟩ = some x :=
  (World.cell?_of_block (Below.heap_setCell _ _ _ _ (by show b ≠ b'; exact hne))).trans hx
theorem grown_set (W : World) (b o : Nat) (u : Value) : W.grownBy (W.setCell ⟨b, o, none⟩ u) (some b) :=
  ⟨rfl, rfl, rfl, by rw [size_set]; exact Nat.le_refl _, fun k hk hne => Below.heap_setCell _ _ _ _ (fun e => hne (by rw [e]))⟩
theorem grown_trans {W W1 W2 : World} {row : Option Nat} (h : W.grownBy W1 row) (k : W1.grownBy W2 row) : W.grownBy W2 row :=
  ⟨k.os.trans h.os, k.tape.trans h.tape, k.output.trans h.output, Nat.le_trans h.size k.size, fun i hi hn => (k.block i (Nat.lt_of_lt_of_le hi h.size) hn).trans (h.block i hi hn)⟩
theorem own_narrow {W : World} {lo gg cap : Nat} {l : List Int} {z : Int} (h : W.ownsRow lo 3 1 (.slice (some ⟨gg, 0, none⟩) (l.length + 1) cap) (l.length + 1) (l.map (Value.int .i64) ++ [.int .i64 z])) : OwnI gg (gg + 1) W (.slice (some ⟨gg, 0, none⟩) (l.length + 1) cap) (l ++ [z]) := by
  have h2 : W.ownsRow lo 3 1 (.slice (some ⟨gg, 0, none⟩) (l.length + 1) cap) (l ++ [z]).length ((l ++ [z]).map (Value.int .i64)) := by simpa [List.map_append] using h
  exact ⟨ownsRow_base h2 (fun g e => by obtain rfl : gg = g := (by simpa [Value.ownBlock] using e); exact Nat.le_refl _), fun g e => by obtain rfl : gg = g := (by simpa [Value.ownBlock] using e); omega⟩
theorem own_put {W : World} {lo hi gg n cap : Nat} {l : List Int} (h : OwnI lo hi W (.slice (some ⟨gg, 0, none⟩) n cap) l) (hn : n = l.length) (k : Nat) (z : Int) : OwnI lo hi (W.setCell ⟨gg, k, none⟩ (.int .i64 z)) (.slice (some ⟨gg, 0, none⟩) n cap) (l.set k z) := by
  subst hn
  have := (h.1.stored k (.int .i64 z)).1
  rw [← List.map_set] at this
  exact ⟨by rw [List.length_set]; exact this, h.2⟩
theorem own_cell {W : World} {lo hi gg n cap : Nat} {l : List Int} (h : OwnI lo hi W (.slice (some ⟨gg, 0, none⟩) n cap) l) (hn : n = l.length) (k : Nat) (hk : k < l.length) : W.cell? ⟨gg, k, none⟩ = some (.int .i64 (l.getD k 0)) := by
  subst hn
  rw [h.1.cellAt k (by omega), List.getElem?_map, List.getElem?_eq_getElem hk, List.getD_eq_getElem?_getD, List.getElem?_eq_getElem hk]; rfl
theorem own_fro {W : World} {lo hi gg n cap : Nat} {l : List Int} (h : OwnI lo hi W (.slice (some ⟨gg, 0, none⟩) n cap) l) (hn : n = l.length) (k : Nat) : W.frozen? ⟨gg, k, none⟩ = false := by
  subst hn
  exact h.1.frozenAt k
set_option maxRecDepth 100000 in
set_option maxHeartbeats 4000000 in
theorem spec_no1 (a : Option Addr) (ws : List Int) (c : Nat) (q : Int) (w : World) (hr : ints.Reads .i64 w a ws) (hn : ws.length ≤ 1048576) (i j : Int) (h : Hid (voterB ws q i = false)) :
    Calls Try.prog 30 #[.agg #[.slice a ws.length c, .int .i64 q], .int .i64 i, .int .i64 j] w (RetPB [] 0 false w) := by
  have Hhr := Lib.hid hr
  clear hr
  go_enter Try.func30, Try.ntmps30
  go_wp2_with fail
  have x0_0 : (w.alloc (.cells #[.slice a ws.length c, .int .i64 q] 27)).cell? ⟨w.heap.size, 0, none⟩ = some (.slice a ws.length c) := cell_new _ _ _ (by simp) rfl
  have x0_1 : (w.alloc (.cells #[.slice a ws.length c, .int .i64 q] 27)).cell? ⟨w.heap.size, 1, none⟩ = some (.int .i64 q) := cell_new _ _ _ (by simp) rfl
  have HB0 := Lib.hid (below_alloc w (.cells #[.slice a ws.length c, .int .i64 q] 27))
  replace x0_0 := cell_old (.cells #[.slice none 0 0, .int .i64 0] 27) x0_0
  replace x0_1 := cell_old (.cells #[.slice none 0 0, .int .i64 0] 27) x0_1
  have x1_0 : ((w.alloc (.cells #[.slice a ws.length c, .int .i64 q] 27)).alloc (.cells #[.slice none 0 0, .int .i64 0] 27)).cell? ⟨w.heap.size + 1, 0, none⟩ = some (.slice none 0 0) := cell_new _ _ _ (by simp) rfl
  have x1_1 : ((w.alloc (.cells #[.slice a ws.length c, .int .i64 q] 27)).alloc (.cells #[.slice none 0 0, .int .i64 0] 27)).cell? ⟨w.heap.size + 1, 1, none⟩ = some (.int .i64 0) := cell_new _ _ _ (by simp) rfl
  have f1_0 : ((w.alloc (.cells #[.slice a ws.length c, .int .i64 q] 27)).alloc (.cells #[.slice none 0 0, .int .i64 0] 27)).frozen? ⟨w.heap.size + 1, 0, none⟩ = false := fro_new _ _ _ (by simp)
  have f1_1 : ((w.alloc (.cells #[.slice a ws.length c, .int .i64 q] 27)).alloc (.cells #[.slice none 0 0, .int .i64 0] 27)).frozen? ⟨w.heap.size + 1, 1, none⟩ = false := fro_new _ _ _ (by simp)
  replace HB0 := Lib.hid (HB0.out.alloc (by simp) (.cells #[.slice none 0 0, .int .i64 0] 27))
  have s0 : w.heap.size + 2 ≤ ((w.alloc (.cells #[.slice a ws.length c, .int .i64 q] 27)).alloc (.cells #[.slice none 0 0, .int .i64 0] 27)).heap.size := by simp
  generalize hw : ((w.alloc (.cells #[.slice a ws.length c, .int .i64 q] 27)).alloc (.cells #[.slice none 0 0, .int .i64 0] 27)) = w0 at *
  clear hw
  have n0_0 : w.heap.size < w0.heap.size := by omega
  have n0_1 : w.heap.size + 1 < w0.heap.size := by omega
  refine (spec_voter a ws c q _ (Hhr.out.below HB0.out) hn i false h).mono ?_
  rintro e w1 ⟨rfl, hb⟩
  have s1 : w0.heap.size ≤ w1.heap.size := hb.size
  have n1_0 : w.heap.size < w1.heap.size := by omega
  have n1_1 : w.heap.size + 1 < w1.heap.size := by omega
  replace x0_0 := cell_below hb x0_0 (by omega)
  replace x0_1 := cell_below hb x0_1 (by omega)
  replace x1_0 := cell_below hb x1_0 (by omega)
  replace x1_1 := cell_below hb x1_1 (by omega)
  replace f1_0 := fro_below hb f1_0 (by omega)
  replace f1_1 := fro_below hb f1_1 (by omega)
  have HB1 := Lib.hid (HB0.out.trans (hb.mono (by omega)))
  clear hb
  go_wp2_with fail
  refine bodyPost_ret (v := .tuple #[.agg #[.slice none 0 0, .int .i64 0], .bool false]) (by simp [results, Try.results30, go_sem, x1_0, x1_1]) rfl ⟨_, rfl, OwnI.nil _ _ _, ?_⟩
  exact ((HB1.out.setCell (by simp) _).setCell (by simp) _)
set_option maxRecDepth 100000 in
set_option maxHeartbeats 4000000 in
theorem spec_no2 (a : Option Addr) (ws : List Int) (c : Nat) (q : Int) (w : World) (hr : ints.Reads .i64 w a ws) (hn : ws.length ≤ 1048576) (i j : Int) (h : Hid (voterB ws q i = true)) (h2 : Hid (voterB ws q j = false)) :
    Calls Try.prog 30 #[.agg #[.slice a ws.length c, .int .i64 q], .int .i64 i, .int .i64 j] w (RetPB [] 0 false w) := by
  have Hhr := Lib.hid hr
  clear hr
  go_enter Try.func30, Try.ntmps30
  go_wp2_with fail
  have x0_0 : (w.alloc (.cells #[.slice a ws.length c, .int .i64 q] 27)).cell? ⟨w.heap.size, 0, none⟩ = some (.slice a ws.length c) := cell_new _ _ _ (by simp) rfl
  have x0_1 : (w.alloc (.cells #[.slice a ws.length c, .int .i64 q] 27)).cell? ⟨w.heap.size, 1, none⟩ = some (.int .i64 q) := cell_new _ _ _ (by simp) rfl
  have HB0 := Lib.hid (below_alloc w (.cells #[.slice a ws.length c, .int .i64 q] 27))
  replace x0_0 := cell_old (.cells #[.slice none 0 0, .int .i64 0] 27) x0_0
  replace x0_1 := cell_old (.cells #[.slice none 0 0, .int .i64 0] 27) x0_1
  have x1_0 : ((w.alloc (.cells #[.slice a ws.length c, .int .i64 q] 27)).alloc (.cells #[.slice none 0 0, .int .i64 0] 27)).cell? ⟨w.heap.size + 1, 0, none⟩ = some (.slice none 0 0) := cell_new _ _ _ (by simp) rfl
  have x1_1 : ((w.alloc (.cells #[.slice a ws.length c, .int .i64 q] 27)).alloc (.cells #[.slice none 0 0, .int .i64 0] 27)).cell? ⟨w.heap.size + 1, 1, none⟩ = some (.int .i64 0) := cell_new _ _ _ (by simp) rfl
  have f1_0 : ((w.alloc (.cells #[.slice a ws.length c, .int .i64 q] 27)).alloc (.cells #[.slice none 0 0, .int .i64 0] 27)).frozen? ⟨w.heap.size + 1, 0, none⟩ = false := fro_new _ _ _ (by simp)
  have f1_1 : ((w.alloc (.cells #[.slice a ws.length c, .int .i64 q] 27)).alloc (.cells #[.slice none 0 0, .int .i64 0] 27)).frozen? ⟨w.heap.size + 1, 1, none⟩ = false := fro_new _ _ _ (by simp)
  replace HB0 := Lib.hid (HB0.out.alloc (by simp) (.cells #[.slice none 0 0, .int .i64 0] 27))
  have s0 : w.heap.size + 2 ≤ ((w.alloc (.cells #[.slice a ws.length c, .int .i64 q] 27)).alloc (.cells #[.slice none 0 0, .int .i64 0] 27)).heap.size := by simp
  generalize hw : ((w.alloc (.cells #[.slice a ws.length c, .int .i64 q] 27)).alloc (.cells #[.slice none 0 0, .int .i64 0] 27)) = w0 at *
  clear hw
  have n0_0 : w.heap.size < w0.heap.size := by omega
  have n0_1 : w.heap.size + 1 < w0.heap.size := by omega
  refine (spec_voter a ws c q _ (Hhr.out.below HB0.out) hn i true h).mono ?_
  rintro e w1 ⟨rfl, hb⟩
  have s1 : w0.heap.size ≤ w1.heap.size := hb.size
  have n1_0 : w.heap.size < w1.heap.size := by omega
  have n1_1 : w.heap.size + 1 < w1.heap.size := by omega
  replace x0_0 := cell_below hb x0_0 (by omega)
  replace x0_1 := cell_below hb x0_1 (by omega)
  replace x1_0 := cell_below hb x1_0 (by omega)
  replace x1_1 := cell_below hb x1_1 (by omega)
  replace f1_0 := fro_below hb f1_0 (by omega)
  replace f1_1 := fro_below hb f1_1 (by omega)
  have HB1 := Lib.hid (HB0.out.trans (hb.mono (by omega)))
  clear hb
  go_wp2_with fail
  refine (spec_voter a ws c q _ (Hhr.out.below HB1.out) hn j false h2).mono ?_
  rintro e w2 ⟨rfl, hb⟩
  have s2 : w1.heap.size ≤ w2.heap.size := hb.size
  have n2_0 : w.heap.size < w2.heap.size := by omega
  have n2_1 : w.heap.size + 1 < w2.heap.size := by omega
  replace x0_0 := cell_below hb x0_0 (by omega)
  replace x0_1 := cell_below hb x0_1 (by omega)
  replace x1_0 := cell_below hb x1_0 (by omega)
  replace x1_1 := cell_below hb x1_1 (by omega)
  replace f1_0 := fro_below hb f1_0 (by omega)
  replace f1_1 := fro_below hb f1_1 (by omega)
  have HB2 := Lib.hid (HB1.out.trans (hb.mono (by omega)))
  clear hb
  go_wp2_with fail
  refine bodyPost_ret (v := .tuple #[.agg #[.slice none 0 0, .int .i64 0], .bool false]) (by simp [results, Try.results30, go_sem, x1_0, x1_1]) rfl ⟨_, rfl, OwnI.nil _ _ _, ?_⟩
  exact ((HB2.out.setCell (by simp) _).setCell (by simp) _)
set_option maxRecDepth 100000 in
set_option maxHeartbeats 4000000 in
theorem spec_no3 (a : Option Addr) (ws : List Int) (c : Nat) (q : Int) (w : World) (hr : ints.Reads .i64 w a ws) (hn : ws.length ≤ 1048576) (i : Int) (h : Hid (voterB ws q i = true)) :
    Calls Try.prog 30 #[.agg #[.slice a ws.length c, .int .i64 q], .int .i64 i, .int .i64 i] w (RetPB [] 0 false w) := by
  have Hhr := Lib.hid hr
  clear hr
  go_enter Try.func30, Try.ntmps30
  go_wp2_with fail
  have x0_0 : (w.alloc (.cells #[.slice a ws.length c, .int .i64 q] 27)).cell? ⟨w.heap.size, 0, none⟩ = some (.slice a ws.length c) := cell_new _ _ _ (by simp) rfl
  have x0_1 : (w.alloc (.cells #[.slice a ws.length c, .int .i64 q] 27)).cell? ⟨w.heap.size, 1, none⟩ = some (.int .i64 q) := cell_new _ _ _ (by simp) rfl
  have HB0 := Lib.hid (below_alloc w (.cells #[.slice a ws.length c, .int .i64 q] 27))
  replace x0_0 := cell_old (.cells #[.slice none 0 0, .int .i64 0] 27) x0_0
  replace x0_1 := cell_old (.cells #[.slice none 0 0, .int .i64 0] 27) x0_1
  have x1_0 : ((w.alloc (.cells #[.slice a ws.length c, .int .i64 q] 27)).alloc (.cells #[.slice none 0 0, .int .i64 0] 27)).cell? ⟨w.heap.size + 1, 0, none⟩ = some (.slice none 0 0) := cell_new _ _ _ (by simp) rfl
  have x1_1 : ((w.alloc (.cells #[.slice a ws.length c, .int .i64 q] 27)).alloc (.cells #[.slice none 0 0, .int .i64 0] 27)).cell? ⟨w.heap.size + 1, 1, none⟩ = some (.int .i64 0) := cell_new _ _ _ (by simp) rfl
  have f1_0 : ((w.alloc (.cells #[.slice a ws.length c, .int .i64 q] 27)).alloc (.cells #[.slice none 0 0, .int .i64 0] 27)).frozen? ⟨w.heap.size + 1, 0, none⟩ = false := fro_new _ _ _ (by simp)
  have f1_1 : ((w.alloc (.cells #[.slice a ws.length c, .int .i64 q] 27)).alloc (.cells #[.slice none 0 0, .int .i64 0] 27)).frozen? ⟨w.heap.size + 1, 1, none⟩ = false := fro_new _ _ _ (by simp)
  replace HB0 := Lib.hid (HB0.out.alloc (by simp) (.cells #[.slice none 0 0, .int .i64 0] 27))
  have s0 : w.heap.size + 2 ≤ ((w.alloc (.cells #[.slice a ws.length c, .int .i64 q] 27)).alloc (.cells #[.slice none 0 0, .int .i64 0] 27)).heap.size := by simp
  generalize hw : ((w.alloc (.cells #[.slice a ws.length c, .int .i64 q] 27)).alloc (.cells #[.slice none 0 0, .int .i64 0] 27)) = w0 at *
  clear hw
  have n0_0 : w.heap.size < w0.heap.size := by omega
  have n0_1 : w.heap.size + 1 < w0.heap.size := by omega
  refine (spec_voter a ws c q _ (Hhr.out.below HB0.out) hn i true h).mono ?_
  rintro e w1 ⟨rfl, hb⟩
  have s1 : w0.heap.size ≤ w1.heap.size := hb.size
  have n1_0 : w.heap.size < w1.heap.size := by omega
  have n1_1 : w.heap.size + 1 < w1.heap.size := by omega
  replace x0_0 := cell_below hb x0_0 (by omega)
  replace x0_1 := cell_below hb x0_1 (by omega)
  replace x1_0 := cell_below hb x1_0 (by omega)
  replace x1_1 := cell_below hb x1_1 (by omega)
  replace f1_0 := fro_below hb f1_0 (by omega)
  replace f1_1 := fro_below hb f1_1 (by omega)
  have HB1 := Lib.hid (HB0.out.trans (hb.mono (by omega)))
  clear hb
  go_wp2_with fail
  refine (spec_voter a ws c q _ (Hhr.out.below HB1.out) hn i true h).mono ?_
  rintro e w2 ⟨rfl, hb⟩
  have s2 : w1.heap.size ≤ w2.heap.size := hb.size
  have n2_0 : w.heap.size < w2.heap.size := by omega
  have n2_1 : w.heap.size + 1 < w2.heap.size := by omega
  replace x0_0 := cell_below hb x0_0 (by omega)
  replace x0_1 := cell_below hb x0_1 (by omega)
  replace x1_0 := cell_below hb x1_0 (by omega)
  replace x1_1 := cell_below hb x1_1 (by omega)
  replace f1_0 := fro_below hb f1_0 (by omega)
  replace f1_1 := fro_below hb f1_1 (by omega)
  have HB2 := Lib.hid (HB1.out.trans (hb.mono (by omega)))
  clear hb
  go_wp2_with fail
  refine bodyPost_ret (v := .tuple #[.agg #[.slice none 0 0, .int .i64 0], .bool false]) (by simp [results, Try.results30, go_sem, x1_0, x1_1]) rfl ⟨_, rfl, OwnI.nil _ _ _, ?_⟩
  exact ((HB2.out.setCell (by simp) _).setCell (by simp) _)
set_option maxRecDepth 100000 in
set_option maxHeartbeats 4000000 in
theorem spec_yes (a : Option Addr) (ws : List Int) (c : Nat) (q : Int) (w : World) (hr : ints.Reads .i64 w a ws) (hn : ws.length ≤ 1048576) (i j : Int) (h : Hid (voterB ws q i = true)) (h2 : Hid (voterB ws q j = true)) (hne : i ≠ j) (hkept : voteB (mergeTo ws i.toNat j.toNat ws.length) q = true) :
    Calls Try.prog 30 #[.agg #[.slice a ws.length c, .int .i64 q], .int .i64 i, .int .i64 j] w (RetPB (mergeTo ws i.toNat j.toNat ws.length) q true w) := by
  obtain ⟨i0, hi, hz0, hz1, hz2⟩ := info_parts own1.infoInt
  obtain ⟨hv, hi0, hi1⟩ := (voter_iff _ _ _).1 h.out
  obtain ⟨_, hj0, hj1⟩ := (voter_iff _ _ _).1 h2.out
  have h18 := ((vote_iff _ _).1 hv).1
  obtain ⟨ki, rfl⟩ : ∃ k : Nat, i = k := ⟨i.toNat, by omega⟩
  obtain ⟨kj, rfl⟩ : ∃ k : Nat, j = k := ⟨j.toNat, by omega⟩
  rw [Int.toNat_natCast, Int.toNat_natCast] at hkept
  have hki : ki < ws.length := by omega
  have hkj : kj < ws.length := by omega
  have hkk : ¬ ((ki : Int) = (kj : Int)) := hne
  have HKEPT := Lib.hid hkept
  have HVA := Lib.hid (vote_at hv)
  clear hv hi0 hi1 hj0 hj1 hkept hne
  rw [Int.toNat_natCast, Int.toNat_natCast]
  have Hhr := Lib.hid hr
  clear hr
  go_enter Try.func30, Try.ntmps30
  go_wp2_with fail
  have x0_0 : (w.alloc (.cells #[.slice a ws.length c, .int .i64 q] 27)).cell? ⟨w.heap.size, 0, none⟩ = some (.slice a ws.length c) := cell_new _ _ _ (by simp) rfl
  have x0_1 : (w.alloc (.cells #[.slice a ws.length c, .int .i64 q] 27)).cell? ⟨w.heap.size, 1, none⟩ = some (.int .i64 q) := cell_new _ _ _ (by simp) rfl
  have HB0 := Lib.hid (below_alloc w (.cells #[.slice a ws.length c, .int .i64 q] 27))
  replace x0_0 := cell_old (.cells #[.slice none 0 0, .int .i64 0] 27) x0_0
  replace x0_1 := cell_old (.cells #[.slice none 0 0, .int .i64 0] 27) x0_1
  have x1_0 : ((w.alloc (.cells #[.slice a ws.length c, .int .i64 q] 27)).alloc (.cells #[.slice none 0 0, .int .i64 0] 27)).cell? ⟨w.heap.size + 1, 0, none⟩ = some (.slice none 0 0) := cell_new _ _ _ (by simp) rfl
  have x1_1 : ((w.alloc (.cells #[.slice a ws.length c, .int .i64 q] 27)).alloc (.cells #[.slice none 0 0, .int .i64 0] 27)).cell? ⟨w.heap.size + 1, 1, none⟩ = some (.int .i64 0) := cell_new _ _ _ (by simp) rfl
  have f1_0 : ((w.alloc (.cells #[.slice a ws.length c, .int .i64 q] 27)).alloc (.cells #[.slice none 0 0, .int .i64 0] 27)).frozen? ⟨w.heap.size + 1, 0, none⟩ = false := fro_new _ _ _ (by simp)
  have f1_1 : ((w.alloc (.cells #[.slice a ws.length c, .int .i64 q] 27)).alloc (.cells #[.slice none 0 0, .int .i64 0] 27)).frozen? ⟨w.heap.size + 1, 1, none⟩ = false := fro_new _ _ _ (by simp)
  replace HB0 := Lib.hid (HB0.out.alloc (by simp) (.cells #[.slice none 0 0, .int .i64 0] 27))
  have s0 : w.heap.size + 2 ≤ ((w.alloc (.cells #[.slice a ws.length c, .int .i64 q] 27)).alloc (.cells #[.slice none 0 0, .int .i64 0] 27)).heap.size := by simp
  generalize hw : ((w.alloc (.cells #[.slice a ws.length c, .int .i64 q] 27)).alloc (.cells #[.slice none 0 0, .int .i64 0] 27)) = w0 at *
  clear hw
  have n0_0 : w.heap.size < w0.heap.size := by omega
  have n0_1 : w.heap.size + 1 < w0.heap.size := by omega
  refine (spec_voter a ws c q _ (Hhr.out.below HB0.out) hn ki true h).mono ?_
  rintro e w1 ⟨rfl, hb⟩
  have s1 : w0.heap.size ≤ w1.heap.size := hb.size
  have n1_0 : w.heap.size < w1.heap.size := by omega
  have n1_1 : w.heap.size + 1 < w1.heap.size := by omega
  replace x0_0 := cell_below hb x0_0 (by omega)
  replace x0_1 := cell_below hb x0_1 (by omega)
  replace x1_0 := cell_below hb x1_0 (by omega)
  replace x1_1 := cell_below hb x1_1 (by omega)
  replace f1_0 := fro_below hb f1_0 (by omega)
  replace f1_1 := fro_below hb f1_1 (by omega)
  have HB1 := Lib.hid (HB0.out.trans (hb.mono (by omega)))
  clear hb
  go_wp2_with fail
  refine (spec_voter a ws c q _ (Hhr.out.below HB1.out) hn kj true h2).mono ?_
  rintro e w2 ⟨rfl, hb⟩
  have s2 : w1.heap.size ≤ w2.heap.size := hb.size
  have n2_0 : w.heap.size < w2.heap.size := by omega
  have n2_1 : w.heap.size + 1 < w2.heap.size := by omega
  replace x0_0 := cell_below hb x0_0 (by omega)
  replace x0_1 := cell_below hb x0_1 (by omega)
  replace x1_0 := cell_below hb x1_0 (by omega)
  replace x1_1 := cell_below hb x1_1 (by omega)
  replace f1_0 := fro_below hb f1_0 (by omega)
  replace f1_1 := fro_below hb f1_1 (by omega)
  have HB2 := Lib.hid (HB1.out.trans (hb.mono (by omega)))
  clear hb
  have z0_0 := cell_old (.cells #[.slice (some ⟨w2.heap.size, 0, none⟩) 0 0, .int .i64 q] 27) (cell_old (.cells #[] 3) x0_0)
  have z0_1 := cell_old (.cells #[.slice (some ⟨w2.heap.size, 0, none⟩) 0 0, .int .i64 q] 27) (cell_old (.cells #[] 3) x0_1)
  have y0 : ((w2.alloc (.cells #[] 3)).alloc (.cells #[.slice (some ⟨w2.heap.size, 0, none⟩) 0 0, .int .i64 q] 27)).cell? ⟨w2.heap.size + 1, 0, none⟩ = some (.slice (some ⟨w2.heap.size, 0, none⟩) 0 0) := cell_new _ _ _ (by simp) rfl
  have y1 : ((w2.alloc (.cells #[] 3)).alloc (.cells #[.slice (some ⟨w2.heap.size, 0, none⟩) 0 0, .int .i64 q] 27)).cell? ⟨w2.heap.size + 1, 1, none⟩ = some (.int .i64 q) := cell_new _ _ _ (by simp) rfl
  have yf : ((w2.alloc (.cells #[] 3)).alloc (.cells #[.slice (some ⟨w2.heap.size, 0, none⟩) 0 0, .int .i64 q] 27)).frozen? ⟨w2.heap.size + 1, 0, none⟩ = false := fro_new _ _ _ (by simp)
  have hb23 : Below w2.heap.size w2 ((w2.alloc (.cells #[] 3)).alloc (.cells #[.slice (some ⟨w2.heap.size, 0, none⟩) 0 0, .int .i64 q] 27)) := (below_alloc w2 (.cells #[] 3)).alloc (by simp) (.cells #[.slice (some ⟨w2.heap.size, 0, none⟩) 0 0, .int .i64 q] 27)
  have hown0 : (w2.alloc (.cells #[] 3)).ownsRow w2.heap.size 3 1 (.slice (some ⟨w2.heap.size, 0, none⟩) 0 0) 0 [] := World.ownsRow_made (base := w2.heap.size) (e := 3) (size := 1) w2 #[] 0 (Nat.le_refl _) (by unfold maxLen; omega) rfl
  have hown3 : ((w2.alloc (.cells #[] 3)).alloc (.cells #[.slice (some ⟨w2.heap.size, 0, none⟩) 0 0, .int .i64 q] 27)).ownsRow w2.heap.size 3 1 (.slice (some ⟨w2.heap.size, 0, none⟩) 0 0) 0 [] := ownsRow_block hown0 (fun g e => Below.heap_alloc _ _ g (hown0.lt g e).2)
  clear hown0
  go_wp2_with fail
  generalize hw3 : ((w2.alloc (.cells #[] 3)).alloc (.cells #[.slice (some ⟨w2.heap.size, 0, none⟩) 0 0, .int .i64 q] 27)) = w3 at *
  clear hw3
  generalize hgbb : ((ki : Int) == (kj : Int)) = gbb at *
  clear hgbb
  obtain rfl : gbb = false := by assumption
  obtain ⟨b, off, rfl, hbl, hcx⟩ := own1.reads_pos Hhr.out (by omega)
  have HCX := Lib.hid hcx
  clear hcx Hhr
  go_loopw [9] (fun i wr => ∃ (k : Nat) (p : Option Addr) (cp : Nat), k ≤ ws.length ∧ i = .int .i64 k ∧ wr.cell? ⟨w2.heap.size + 1, 0, none⟩ = some (.slice p (mergeTo ws ki kj k).length cp) ∧ wr.cell? ⟨w2.heap.size + 1, 1, none⟩ = some (.int .i64 q) ∧ wr.frozen? ⟨w2.heap.size + 1, 0, none⟩ = false ∧ wr.ownsRow w2.heap.size 3 1 (.slice p (mergeTo ws ki kj k).length cp) (mergeTo ws ki kj k).length ((mergeTo ws ki kj k).map (Value.int .i64)) ∧ (∀ g, (Value.slice p (mergeTo ws ki kj k).length cp).ownBlock = some g → g ≠ w2.heap.size + 1) ∧ Below w2.heap.size w2 wr) (fun i _ => ws.length - (intOf i).toNat)
  case atStart => exact ⟨0, _, 0, Nat.zero_le _, rfl, y0, y1, yf, hown3, fun g e => by simp [Value.ownBlock] at e; omega, hb23⟩
  case round =>
    clear z0_0 z0_1 y0 y1 yf hb23 hown3
    obtain ⟨k, p, cp, hk, rfl, y0, y1, yf, hown, hnb, hbel⟩ := hrel
    have HNB := Lib.hid hnb
    have HV := Lib.hid hown.lt
    have HBl := Lib.hid hbel
    have hsz := hbel.size
    have x2_0 := cell_below hbel x0_0 n2_0
    have x2_1 := cell_below hbel x0_1 n2_0
    have hbw := HB2.out.trans (hbel.mono (by omega))
    by_cases hlt : k < ws.length
    · have hc := cell_below hbw (HCX.out k hlt) hbl
      have hcj := cell_below hbw (HCX.out kj hkj) hbl
      have HO := Lib.hid hown
      have i1 : (0 : Int) ≤ (k : Int) := by omega
      have i2 : (k : Int) < (ws.length : Int) := by omega
      have i3 : (0 : Int) ≤ (kj : Int) := by omega
      have i4 : (kj : Int) < (ws.length : Int) := by omega
      have hvk := HVA.out k hlt
      have hvj := HVA.out kj hkj
      clear hown hbel hnb hbw
      by_cases hd : k = kj
      · subst hd
        have HM := Lib.hid (merge_skip ws ki k)
        have g1 : ¬ ((k : Int) = (ki : Int)) := fun e => hkk e.symm
        generalize ws.getD k 0 = x at *
        go_wp2_with fail
        go_roundw
        case rel => exact ⟨k + 1, p, cp, by omega, by go_num, by rw [HM.out]; exact y0, y1, yf, by rw [HM.out]; exact HO.out, by rw [HM.out]; exact HNB.out, HBl.out⟩
        case measure => simp [intOf]; omega
      have g2 : ¬ ((k : Int) = (kj : Int)) := by omega
      by_cases hc1 : k = ki
      · subst hc1
        have HM := Lib.hid (show mergeTo ws k kj (k + 1) = mergeTo ws k kj k ++ [(ws.getD k 0 + ws.getD kj 0)] by rw [merge_succ _ _ _ _ hd, show itemAt ws k kj k = ws.getD k 0 + ws.getD kj 0 from if_pos rfl])
        have hlen := merge_length_le ws k kj k
        generalize hms : mergeTo ws k kj k = ms at *
        clear hms
        have e1 : IntKind.i64.wrap (ws.getD k 0 + ws.getD kj 0) = ws.getD k 0 + ws.getD kj 0 := IntWalk.i64_in _ (by omega)
        generalize ws.getD k 0 = x at *
        generalize ws.getD kj 0 = y at *
        go_wp2_with (at_builtin; refine wpList_append_lies _ rfl _ _ 22 rfl w2.heap.size 3 i0 (.int .i64 0) 1 8 Try.underlying22 hi hz0 hz1 hz2 rfl (by decide) (.slice p ms.length cp) ms.length (ms.map (Value.int .i64)) rfl (HO.out.alloc _) ⟨wr.heap.size, 0, none⟩ 1 1 [.int .i64 (x + y)] rfl rfl (cell_one_new _ _ _) (by simp [Value.oneCell']) (by omega) (by unfold maxLen; omega) (by omega) (by simp; omega) _ rfl ?_; intro gg cap w4 hown' hgrow hat _; have y0' : w4.cell? ⟨w2.heap.size + 1, 0, none⟩ = some (.slice p ms.length cp) := cell_grow hgrow (cell_old _ y0) (fun g e => Ne.symm (HNB.out g e)); have y1' : w4.cell? ⟨w2.heap.size + 1, 1, none⟩ = some (.int .i64 q) := cell_grow hgrow (cell_old _ y1) (fun g e => Ne.symm (HNB.out g e)); have yf' : w4.frozen? ⟨w2.heap.size + 1, 0, none⟩ = false := fro_grow hgrow (cell_old _ y0) (fro_below (below_alloc _ _) yf (block_lt_of_cell (a := ⟨w2.heap.size + 1, 0, none⟩) y0)) (fun g e => Ne.symm (HNB.out g e)))
        have HO2 := Lib.hid hown'
        have hsz4 := hgrow.size
        have HB4 := Lib.hid ((HBl.out.alloc hsz _).grown hgrow (by simp; omega) (fun g e => (HV.out g e).1))
        have hgb : gg ≠ w2.heap.size + 1 := by
          rcases hat with ha | ha
          · exact HNB.out gg ha
          · have := block_lt_of_cell (a := ⟨w2.heap.size + 1, 0, none⟩) y0
            simp at ha this; omega
        clear hown' hgrow hat
        go_wp2_with fail
        go_roundw
        case rel => exact ⟨k + 1, some ⟨gg, 0, none⟩, cap, by omega, by go_num, by rw [HM.out, List.length_append]; exact World.cell?_setCell_same _ _ _ y0', (World.cell?_setCell_other _ _ _ _ (by simp)).trans y1', by rw [World.frozen?_setCell]; exact yf', by rw [HM.out, List.map_append, List.length_append]; exact ownsRow_block HO2.out (fun g e => Below.heap_setCell _ _ _ _ (by obtain rfl : gg = g := (by simpa [Value.ownBlock] using e); exact hgb)), fun g e => by (rw [HM.out] at e; obtain rfl : gg = g := (by simpa [Value.ownBlock] using e)); exact hgb, HB4.out.setCell (by simp) _⟩
        case measure => simp [intOf]; omega
      · have g1 : ¬ ((k : Int) = (ki : Int)) := by omega
        have HM := Lib.hid (show mergeTo ws ki kj (k + 1) = mergeTo ws ki kj k ++ [ws.getD k 0] by rw [merge_succ _ _ _ _ hd, show itemAt ws ki kj k = ws.getD k 0 from if_neg hc1])
        have hlen := merge_length_le ws ki kj k
        generalize hms : mergeTo ws ki kj k = ms at *
        clear hms
        generalize ws.getD k 0 = x at *
        generalize ws.getD kj 0 = y at *
        go_wp2_with (at_builtin; refine wpList_append_lies _ rfl _ _ 22 rfl w2.heap.size 3 i0 (.int .i64 0) 1 8 Try.underlying22 hi hz0 hz1 hz2 rfl (by decide) (.slice p ms.length cp) ms.length (ms.map (Value.int .i64)) rfl (HO.out.alloc _) ⟨wr.heap.size, 0, none⟩ 1 1 [.int .i64 x] rfl rfl (cell_one_new _ _ _) (by simp [Value.oneCell']) (by omega) (by unfold maxLen; omega) (by omega) (by simp; omega) _ rfl ?_; intro gg cap w4 hown' hgrow hat _; have y0' : w4.cell? ⟨w2.heap.size + 1, 0, none⟩ = some (.slice p ms.length cp) := cell_grow hgrow (cell_old _ y0) (fun g e => Ne.symm (HNB.out g e)); have y1' : w4.cell? ⟨w2.heap.size + 1, 1, none⟩ = some (.int .i64 q) := cell_grow hgrow (cell_old _ y1) (fun g e => Ne.symm (HNB.out g e)); have yf' : w4.frozen? ⟨w2.heap.size + 1, 0, none⟩ = false := fro_grow hgrow (cell_old _ y0) (fro_below (below_alloc _ _) yf (block_lt_of_cell (a := ⟨w2.heap.size + 1, 0, none⟩) y0)) (fun g e => Ne.symm (HNB.out g e)))
        have HO2 := Lib.hid hown'
        have hsz4 := hgrow.size
        have HB4 := Lib.hid ((HBl.out.alloc hsz _).grown hgrow (by simp; omega) (fun g e => (HV.out g e).1))
        have hgb : gg ≠ w2.heap.size + 1 := by
          rcases hat with ha | ha
          · exact HNB.out gg ha
          · have := block_lt_of_cell (a := ⟨w2.heap.size + 1, 0, none⟩) y0
            simp at ha this; omega
        clear hown' hgrow hat
        go_wp2_with fail
        go_roundw
        case rel => exact ⟨k + 1, some ⟨gg, 0, none⟩, cap, by omega, by go_num, by rw [HM.out, List.length_append]; exact World.cell?_setCell_same _ _ _ y0', (World.cell?_setCell_other _ _ _ _ (by simp)).trans y1', by rw [World.frozen?_setCell]; exact yf', by rw [HM.out, List.map_append, List.length_append]; exact ownsRow_block HO2.out (fun g e => Below.heap_setCell _ _ _ _ (by obtain rfl : gg = g := (by simpa [Value.ownBlock] using e); exact hgb)), fun g e => by (rw [HM.out] at e; obtain rfl : gg = g := (by simpa [Value.ownBlock] using e)); exact hgb, HB4.out.setCell (by simp) _⟩
        case measure => simp [intOf]; omega
    · obtain rfl : k = ws.length := by omega
      have HR := Lib.hid (OwnI.of hown)
      have hlm := merge_length_le ws ki kj ws.length
      have HB3 := Lib.hid hbw
      have x1_0' := cell_below hbel x1_0 n2_1
      have x1_1' := cell_below hbel x1_1 n2_1
      have f1_0' := fro_below hbel f1_0 n2_1
      have f1_1' := fro_below hbel f1_1 n2_1
      clear hown hbel hnb hbw x1_0 x1_1 f1_0 f1_1
      generalize hms : mergeTo ws ki kj ws.length = ms at *
      clear hms
      go_wp2_with fail
      refine (spec_kept_yes p ms cp q wr HR.out.reads (by omega) HKEPT).mono ?_
      rintro e w9 ⟨rfl, hb⟩
      have hs9 := hb.size
      have HB7 := Lib.hid (HB3.out.trans (hb.mono HB3.out.size))
      have x1_0 := cell_below hb x1_0' (by omega)
      have x1_1 := cell_below hb x1_1' (by omega)
      have f1_0 := fro_below hb f1_0' (by omega)
      have f1_1 := fro_below hb f1_1' (by omega)
      have HO4 := Lib.hid (HR.out.below hb)
      clear hb HR x1_0' x1_1' f1_0' f1_1'
      go_wp2_with fail
      refine bodyPost_ret (v := .tuple #[.agg #[.slice p ms.length cp, .int .i64 q], .bool true]) (by simp [results, Try.results30, go_sem, x1_0, x1_1, f1_0, f1_1]) rfl ⟨_, rfl, ?_, ?_⟩
      · simp only [size_set]; exact ((HO4.out.set (by show w.heap.size + 1 < _; omega) _).set (by show w.heap.size + 1 < _; omega) _).mono (by omega) (by omega)
      · exact (HB7.out.setCell (by simp) _).setCell (by simp) _
set_option maxRecDepth 100000 in
set_option maxHeartbeats 4000000 in
theorem spec_out (a : Option Addr) (ws : List Int) (c : Nat) (q : Int) (w : World) (hr : ints.Reads .i64 w a ws) (hn : ws.length ≤ 1048576) (i j : Int) (h : Hid (voterB ws q i = true)) (h2 : Hid (voterB ws q j = true)) (hne : i ≠ j) (hkept : voteB (mergeTo ws i.toNat j.toNat ws.length) q = false) :
    Calls Try.prog 30 #[.agg #[.slice a ws.length c, .int .i64 q], .int .i64 i, .int .i64 j] w (RetPB [] 0 false w) := by
  obtain ⟨i0, hi, hz0, hz1, hz2⟩ := info_parts own1.infoInt
  obtain ⟨hv, hi0, hi1⟩ := (voter_iff _ _ _).1 h.out
  obtain ⟨_, hj0, hj1⟩ := (voter_iff _ _ _).1 h2.out
  have h18 := ((vote_iff _ _).1 hv).1
  obtain ⟨ki, rfl⟩ : ∃ k : Nat, i = k := ⟨i.toNat, by omega⟩
  obtain ⟨kj, rfl⟩ : ∃ k : Nat, j = k := ⟨j.toNat, by omega⟩
  rw [Int.toNat_natCast, Int.toNat_natCast] at hkept
  have hki : ki < ws.length := by omega
  have hkj : kj < ws.length := by omega
  have hkk : ¬ ((ki : Int) = (kj : Int)) := hne
  have HKEPT := Lib.hid hkept
  have HVA := Lib.hid (vote_at hv)
  clear hv hi0 hi1 hj0 hj1 hkept hne
  have Hhr := Lib.hid hr
  clear hr
  go_enter Try.func30, Try.ntmps30
  go_wp2_with fail
  have x0_0 : (w.alloc (.cells #[.slice a ws.length c, .int .i64 q] 27)).cell? ⟨w.heap.size, 0, none⟩ = some (.slice a ws.length c) := cell_new _ _ _ (by simp) rfl
  have x0_1 : (w.alloc (.cells #[.slice a ws.length c, .int .i64 q] 27)).cell? ⟨w.heap.size, 1, none⟩ = some (.int .i64 q) := cell_new _ _ _ (by simp) rfl
  have HB0 := Lib.hid (below_alloc w (.cells #[.slice a ws.length c, .int .i64 q] 27))
  replace x0_0 := cell_old (.cells #[.slice none 0 0, .int .i64 0] 27) x0_0
  replace x0_1 := cell_old (.cells #[.slice none 0 0, .int .i64 0] 27) x0_1
  have x1_0 : ((w.alloc (.cells #[.slice a ws.length c, .int .i64 q] 27)).alloc (.cells #[.slice none 0 0, .int .i64 0] 27)).cell? ⟨w.heap.size + 1, 0, none⟩ = some (.slice none 0 0) := cell_new _ _ _ (by simp) rfl
  have x1_1 : ((w.alloc (.cells #[.slice a ws.length c, .int .i64 q] 27)).alloc (.cells #[.slice none 0 0, .int .i64 0] 27)).cell? ⟨w.heap.size + 1, 1, none⟩ = some (.int .i64 0) := cell_new _ _ _ (by simp) rfl
  have f1_0 : ((w.alloc (.cells #[.slice a ws.length c, .int .i64 q] 27)).alloc (.cells #[.slice none 0 0, .int .i64 0] 27)).frozen? ⟨w.heap.size + 1, 0, none⟩ = false := fro_new _ _ _ (by simp)
  have f1_1 : ((w.alloc (.cells #[.slice a ws.length c, .int .i64 q] 27)).alloc (.cells #[.slice none 0 0, .int .i64 0] 27)).frozen? ⟨w.heap.size + 1, 1, none⟩ = false := fro_new _ _ _ (by simp)
  replace HB0 := Lib.hid (HB0.out.alloc (by simp) (.cells #[.slice none 0 0, .int .i64 0] 27))
  have s0 : w.heap.size + 2 ≤ ((w.alloc (.cells #[.slice a ws.length c, .int .i64 q] 27)).alloc (.cells #[.slice none 0 0, .int .i64 0] 27)).heap.size := by simp
  generalize hw : ((w.alloc (.cells #[.slice a ws.length c, .int .i64 q] 27)).alloc (.cells #[.slice none 0 0, .int .i64 0] 27)) = w0 at *
  clear hw
  have n0_0 : w.heap.size < w0.heap.size := by omega
  have n0_1 : w.heap.size + 1 < w0.heap.size := by omega
  refine (spec_voter a ws c q _ (Hhr.out.below HB0.out) hn ki true h).mono ?_
  rintro e w1 ⟨rfl, hb⟩
  have s1 : w0.heap.size ≤ w1.heap.size := hb.size
  have n1_0 : w.heap.size < w1.heap.size := by omega
  have n1_1 : w.heap.size + 1 < w1.heap.size := by omega
  replace x0_0 := cell_below hb x0_0 (by omega)
  replace x0_1 := cell_below hb x0_1 (by omega)
  replace x1_0 := cell_below hb x1_0 (by omega)
  replace x1_1 := cell_below hb x1_1 (by omega)
  replace f1_0 := fro_below hb f1_0 (by omega)
  replace f1_1 := fro_below hb f1_1 (by omega)
  have HB1 := Lib.hid (HB0.out.trans (hb.mono (by omega)))
  clear hb
  go_wp2_with fail
  refine (spec_voter a ws c q _ (Hhr.out.below HB1.out) hn kj true h2).mono ?_
  rintro e w2 ⟨rfl, hb⟩
  have s2 : w1.heap.size ≤ w2.heap.size := hb.size
  have n2_0 : w.heap.size < w2.heap.size := by omega
  have n2_1 : w.heap.size + 1 < w2.heap.size := by omega
  replace x0_0 := cell_below hb x0_0 (by omega)
  replace x0_1 := cell_below hb x0_1 (by omega)
  replace x1_0 := cell_below hb x1_0 (by omega)
  replace x1_1 := cell_below hb x1_1 (by omega)
  replace f1_0 := fro_below hb f1_0 (by omega)
  replace f1_1 := fro_below hb f1_1 (by omega)
  have HB2 := Lib.hid (HB1.out.trans (hb.mono (by omega)))
  clear hb
  have z0_0 := cell_old (.cells #[.slice (some ⟨w2.heap.size, 0, none⟩) 0 0, .int .i64 q] 27) (cell_old (.cells #[] 3) x0_0)
  have z0_1 := cell_old (.cells #[.slice (some ⟨w2.heap.size, 0, none⟩) 0 0, .int .i64 q] 27) (cell_old (.cells #[] 3) x0_1)
  have y0 : ((w2.alloc (.cells #[] 3)).alloc (.cells #[.slice (some ⟨w2.heap.size, 0, none⟩) 0 0, .int .i64 q] 27)).cell? ⟨w2.heap.size + 1, 0, none⟩ = some (.slice (some ⟨w2.heap.size, 0, none⟩) 0 0) := cell_new _ _ _ (by simp) rfl
  have y1 : ((w2.alloc (.cells #[] 3)).alloc (.cells #[.slice (some ⟨w2.heap.size, 0, none⟩) 0 0, .int .i64 q] 27)).cell? ⟨w2.heap.size + 1, 1, none⟩ = some (.int .i64 q) := cell_new _ _ _ (by simp) rfl
  have yf : ((w2.alloc (.cells #[] 3)).alloc (.cells #[.slice (some ⟨w2.heap.size, 0, none⟩) 0 0, .int .i64 q] 27)).frozen? ⟨w2.heap.size + 1, 0, none⟩ = false := fro_new _ _ _ (by simp)
  have hb23 : Below w2.heap.size w2 ((w2.alloc (.cells #[] 3)).alloc (.cells #[.slice (some ⟨w2.heap.size, 0, none⟩) 0 0, .int .i64 q] 27)) := (below_alloc w2 (.cells #[] 3)).alloc (by simp) (.cells #[.slice (some ⟨w2.heap.size, 0, none⟩) 0 0, .int .i64 q] 27)
  have hown0 : (w2.alloc (.cells #[] 3)).ownsRow w2.heap.size 3 1 (.slice (some ⟨w2.heap.size, 0, none⟩) 0 0) 0 [] := World.ownsRow_made (base := w2.heap.size) (e := 3) (size := 1) w2 #[] 0 (Nat.le_refl _) (by unfold maxLen; omega) rfl
  have hown3 : ((w2.alloc (.cells #[] 3)).alloc (.cells #[.slice (some ⟨w2.heap.size, 0, none⟩) 0 0, .int .i64 q] 27)).ownsRow w2.heap.size 3 1 (.slice (some ⟨w2.heap.size, 0, none⟩) 0 0) 0 [] := ownsRow_block hown0 (fun g e => Below.heap_alloc _ _ g (hown0.lt g e).2)
  clear hown0
  go_wp2_with fail
  generalize hw3 : ((w2.alloc (.cells #[] 3)).alloc (.cells #[.slice (some ⟨w2.heap.size, 0, none⟩) 0 0, .int .i64 q] 27)) = w3 at *
  clear hw3
  generalize hgbb : ((ki : Int) == (kj : Int)) = gbb at *
  clear hgbb
  obtain rfl : gbb = false := by assumption
  obtain ⟨b, off, rfl, hbl, hcx⟩ := own1.reads_pos Hhr.out (by omega)
  have HCX := Lib.hid hcx
  clear hcx Hhr
  go_loopw [9] (fun i wr => ∃ (k : Nat) (p : Option Addr) (cp : Nat), k ≤ ws.length ∧ i = .int .i64 k ∧ wr.cell? ⟨w2.heap.size + 1, 0, none⟩ = some (.slice p (mergeTo ws ki kj k).length cp) ∧ wr.cell? ⟨w2.heap.size + 1, 1, none⟩ = some (.int .i64 q) ∧ wr.frozen? ⟨w2.heap.size + 1, 0, none⟩ = false ∧ wr.ownsRow w2.heap.size 3 1 (.slice p (mergeTo ws ki kj k).length cp) (mergeTo ws ki kj k).length ((mergeTo ws ki kj k).map (Value.int .i64)) ∧ (∀ g, (Value.slice p (mergeTo ws ki kj k).length cp).ownBlock = some g → g ≠ w2.heap.size + 1) ∧ Below w2.heap.size w2 wr) (fun i _ => ws.length - (intOf i).toNat)
  case atStart => exact ⟨0, _, 0, Nat.zero_le _, rfl, y0, y1, yf, hown3, fun g e => by simp [Value.ownBlock] at e; omega, hb23⟩
  case round =>
    clear z0_0 z0_1 y0 y1 yf hb23 hown3
    obtain ⟨k, p, cp, hk, rfl, y0, y1, yf, hown, hnb, hbel⟩ := hrel
    have HNB := Lib.hid hnb
    have HV := Lib.hid hown.lt
    have HBl := Lib.hid hbel
    have hsz := hbel.size
    have x2_0 := cell_below hbel x0_0 n2_0
    have x2_1 := cell_below hbel x0_1 n2_0
    have hbw := HB2.out.trans (hbel.mono (by omega))
    by_cases hlt : k < ws.length
    · have hc := cell_below hbw (HCX.out k hlt) hbl
      have hcj := cell_below hbw (HCX.out kj hkj) hbl
      have HO := Lib.hid hown
      have i1 : (0 : Int) ≤ (k : Int) := by omega
      have i2 : (k : Int) < (ws.length : Int) := by omega
      have i3 : (0 : Int) ≤ (kj : Int) := by omega
      have i4 : (kj : Int) < (ws.length : Int) := by omega
      have hvk := HVA.out k hlt
      have hvj := HVA.out kj hkj
      clear hown hbel hnb hbw
      by_cases hd : k = kj
      · subst hd
        have HM := Lib.hid (merge_skip ws ki k)
        have g1 : ¬ ((k : Int) = (ki : Int)) := fun e => hkk e.symm
        generalize ws.getD k 0 = x at *
        go_wp2_with fail
        go_roundw
        case rel => exact ⟨k + 1, p, cp, by omega, by go_num, by rw [HM.out]; exact y0, y1, yf, by rw [HM.out]; exact HO.out, by rw [HM.out]; exact HNB.out, HBl.out⟩
        case measure => simp [intOf]; omega
      have g2 : ¬ ((k : Int) = (kj : Int)) := by omega
      by_cases hc1 : k = ki
      · subst hc1
        have HM := Lib.hid (show mergeTo ws k kj (k + 1) = mergeTo ws k kj k ++ [(ws.getD k 0 + ws.getD kj 0)] by rw [merge_succ _ _ _ _ hd, show itemAt ws k kj k = ws.getD k 0 + ws.getD kj 0 from if_pos rfl])
        have hlen := merge_length_le ws k kj k
        generalize hms : mergeTo ws k kj k = ms at *
        clear hms
        have e1 : IntKind.i64.wrap (ws.getD k 0 + ws.getD kj 0) = ws.getD k 0 + ws.getD kj 0 := IntWalk.i64_in _ (by omega)
        generalize ws.getD k 0 = x at *
        generalize ws.getD kj 0 = y at *
        go_wp2_with (at_builtin; refine wpList_append_lies _ rfl _ _ 22 rfl w2.heap.size 3 i0 (.int .i64 0) 1 8 Try.underlying22 hi hz0 hz1 hz2 rfl (by decide) (.slice p ms.length cp) ms.length (ms.map (Value.int .i64)) rfl (HO.out.alloc _) ⟨wr.heap.size, 0, none⟩ 1 1 [.int .i64 (x + y)] rfl rfl (cell_one_new _ _ _) (by simp [Value.oneCell']) (by omega) (by unfold maxLen; omega) (by omega) (by simp; omega) _ rfl ?_; intro gg cap w4 hown' hgrow hat _; have y0' : w4.cell? ⟨w2.heap.size + 1, 0, none⟩ = some (.slice p ms.length cp) := cell_grow hgrow (cell_old _ y0) (fun g e => Ne.symm (HNB.out g e)); have y1' : w4.cell? ⟨w2.heap.size + 1, 1, none⟩ = some (.int .i64 q) := cell_grow hgrow (cell_old _ y1) (fun g e => Ne.symm (HNB.out g e)); have yf' : w4.frozen? ⟨w2.heap.size + 1, 0, none⟩ = false := fro_grow hgrow (cell_old _ y0) (fro_below (below_alloc _ _) yf (block_lt_of_cell (a := ⟨w2.heap.size + 1, 0, none⟩) y0)) (fun g e => Ne.symm (HNB.out g e)))
        have HO2 := Lib.hid hown'
        have hsz4 := hgrow.size
        have HB4 := Lib.hid ((HBl.out.alloc hsz _).grown hgrow (by simp; omega) (fun g e => (HV.out g e).1))
        have hgb : gg ≠ w2.heap.size + 1 := by
          rcases hat with ha | ha
          · exact HNB.out gg ha
          · have := block_lt_of_cell (a := ⟨w2.heap.size + 1, 0, none⟩) y0
            simp at ha this; omega
        clear hown' hgrow hat
        go_wp2_with fail
        go_roundw
        case rel => exact ⟨k + 1, some ⟨gg, 0, none⟩, cap, by omega, by go_num, by rw [HM.out, List.length_append]; exact World.cell?_setCell_same _ _ _ y0', (World.cell?_setCell_other _ _ _ _ (by simp)).trans y1', by rw [World.frozen?_setCell]; exact yf', by rw [HM.out, List.map_append, List.length_append]; exact ownsRow_block HO2.out (fun g e => Below.heap_setCell _ _ _ _ (by obtain rfl : gg = g := (by simpa [Value.ownBlock] using e); exact hgb)), fun g e => by (rw [HM.out] at e; obtain rfl : gg = g := (by simpa [Value.ownBlock] using e)); exact hgb, HB4.out.setCell (by simp) _⟩
        case measure => simp [intOf]; omega
      · have g1 : ¬ ((k : Int) = (ki : Int)) := by omega
        have HM := Lib.hid (show mergeTo ws ki kj (k + 1) = mergeTo ws ki kj k ++ [ws.getD k 0] by rw [merge_succ _ _ _ _ hd, show itemAt ws ki kj k = ws.getD k 0 from if_neg hc1])
        have hlen := merge_length_le ws ki kj k
        generalize hms : mergeTo ws ki kj k = ms at *
        clear hms
        generalize ws.getD k 0 = x at *
        generalize ws.getD kj 0 = y at *
        go_wp2_with (at_builtin; refine wpList_append_lies _ rfl _ _ 22 rfl w2.heap.size 3 i0 (.int .i64 0) 1 8 Try.underlying22 hi hz0 hz1 hz2 rfl (by decide) (.slice p ms.length cp) ms.length (ms.map (Value.int .i64)) rfl (HO.out.alloc _) ⟨wr.heap.size, 0, none⟩ 1 1 [.int .i64 x] rfl rfl (cell_one_new _ _ _) (by simp [Value.oneCell']) (by omega) (by unfold maxLen; omega) (by omega) (by simp; omega) _ rfl ?_; intro gg cap w4 hown' hgrow hat _; have y0' : w4.cell? ⟨w2.heap.size + 1, 0, none⟩ = some (.slice p ms.length cp) := cell_grow hgrow (cell_old _ y0) (fun g e => Ne.symm (HNB.out g e)); have y1' : w4.cell? ⟨w2.heap.size + 1, 1, none⟩ = some (.int .i64 q) := cell_grow hgrow (cell_old _ y1) (fun g e => Ne.symm (HNB.out g e)); have yf' : w4.frozen? ⟨w2.heap.size + 1, 0, none⟩ = false := fro_grow hgrow (cell_old _ y0) (fro_below (below_alloc _ _) yf (block_lt_of_cell (a := ⟨w2.heap.size + 1, 0, none⟩) y0)) (fun g e => Ne.symm (HNB.out g e)))
        have HO2 := Lib.hid hown'
        have hsz4 := hgrow.size
        have HB4 := Lib.hid ((HBl.out.alloc hsz _).grown hgrow (by simp; omega) (fun g e => (HV.out g e).1))
        have hgb : gg ≠ w2.heap.size + 1 := by
          rcases hat with ha | ha
          · exact HNB.out gg ha
          · have := block_lt_of_cell (a := ⟨w2.heap.size + 1, 0, none⟩) y0
            simp at ha this; omega
        clear hown' hgrow hat
        go_wp2_with fail
        go_roundw
        case rel => exact ⟨k + 1, some ⟨gg, 0, none⟩, cap, by omega, by go_num, by rw [HM.out, List.length_append]; exact World.cell?_setCell_same _ _ _ y0', (World.cell?_setCell_other _ _ _ _ (by simp)).trans y1', by rw [World.frozen?_setCell]; exact yf', by rw [HM.out, List.map_append, List.length_append]; exact ownsRow_block HO2.out (fun g e => Below.heap_setCell _ _ _ _ (by obtain rfl : gg = g := (by simpa [Value.ownBlock] using e); exact hgb)), fun g e => by (rw [HM.out] at e; obtain rfl : gg = g := (by simpa [Value.ownBlock] using e)); exact hgb, HB4.out.setCell (by simp) _⟩
        case measure => simp [intOf]; omega
    · obtain rfl : k = ws.length := by omega
      have HR := Lib.hid (OwnI.of hown)
      have hlm := merge_length_le ws ki kj ws.length
      have HB3 := Lib.hid hbw
      have x1_0' := cell_below hbel x1_0 n2_1
      have x1_1' := cell_below hbel x1_1 n2_1
      have f1_0' := fro_below hbel f1_0 n2_1
      have f1_1' := fro_below hbel f1_1 n2_1
      clear hown hbel hnb hbw x1_0 x1_1 f1_0 f1_1
      generalize hms : mergeTo ws ki kj ws.length = ms at *
      clear hms
      go_wp2_with fail
      refine (spec_kept_no p ms cp q wr HR.out.reads (by omega) HKEPT).mono ?_
      rintro e w9 ⟨rfl, hb⟩
      have hs9 := hb.size
      have HB7 := Lib.hid (HB3.out.trans (hb.mono HB3.out.size))
      have x1_0 := cell_below hb x1_0' (by omega)
      have x1_1 := cell_below hb x1_1' (by omega)
      have f1_0 := fro_below hb f1_0' (by omega)
      have f1_1 := fro_below hb f1_1' (by omega)
      have HO4 := Lib.hid (HR.out.below hb)
      clear hb HR x1_0' x1_1' f1_0' f1_1'
      go_wp2_with fail
      refine bodyPost_ret (v := .tuple #[.agg #[.slice none 0 0, .int .i64 0], .bool false]) (by simp [results, Try.results30, go_sem, x1_0, x1_1, f1_0, f1_1]) rfl ⟨_, rfl, OwnI.nil _ _ _, ?_⟩
      exact ((HB7.out.setCell (by simp) _).setCell (by simp) _)
end Go.Proofs.Ytcklehfcpengoaa.merges
