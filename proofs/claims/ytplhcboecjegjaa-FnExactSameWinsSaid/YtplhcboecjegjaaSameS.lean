/- The walk of SameWins: the model's. -/
import Derived.Test.YtplhcboecjegjaaOutOf
import Derived.Deep.RegionHeld3
import Derived.Deep.DrawnRows
import Derived.Deep.AppendLies
import Derived.Deep.QuietTactic
import Derived.Laws.Rows
namespace Go.Proofs.Ytplhcboecjegjaa.sames
open Go.RowKit own pp nums pv bitw mk wins ownb bitn outc
set_option linter.unusedVariables false
attribute [local go_sem ↓] Go.wp_at_zero Go.wp_at_succ
set_option linter.unusedSimpArgs false

theorem cell_keep {W W' : World} (h : Below W.heap.size W W') {b o : Nat} {x : Value} (hx : W.cell? ⟨b, o, none⟩ = some x) : W'.cell? ⟨b, o, none⟩ = some x :=
  cell_below h hx (block_lt_of_cell (a := ⟨b, o, none⟩) hx)
theorem fro_keep {W W' : World} (h : Below W.heap.size W W') {b o o' : Nat} {x : Value} (hx : W.cell? ⟨b, o', none⟩ = some x) (hf : W.frozen? ⟨b, o, none⟩ = false) : W'.frozen? ⟨b, o, none⟩ = false :=
  fro_below h hf (block_lt_of_cell (a := ⟨b, o', none⟩) hx)
theorem cell_grow {W W' : World} {row : Option Nat} (h : W.grownBy W' row) {b o : Nat} {x : Value} (hx : W.cell? ⟨b, o, none⟩ = some x) (hne : ∀ g, row = some g → b ≠ g) : W'.cell? ⟨b, o, none⟩ = some x :=
  (World.cell?_of_block (h.block b (block_lt_of_cell (a := ⟨b, o, none⟩) hx) (fun e => hne b e.symm rfl))).trans hx
theorem fro_grow {W W' : World} {row : Option Nat} (h : W.grownBy W' row) {b o o' : Nat} {x : Value} (hx : W.cell? ⟨b, o', none⟩ = some x) (hf : W.frozen? ⟨b, o, none⟩ = false) (hne : ∀ g, row = some g → b ≠ g) : W'.frozen? ⟨b, o, none⟩ = false :=
  (World.frozen?_of_block (a := ⟨b, o, none⟩) (h.block b (block_lt_of_cell (a := ⟨b, o', none⟩) hx) (fun e => hne b e.symm rfl))).trans hf
theorem own_grow {W W' : World} {row : Option Nat} (h : W.grownBy W' row) {lo hi : Nat} {v : Value} {zs : List Int} (ho : OwnI lo hi W v zs) (hne : ∀ g, row = some g → g < lo ∨ hi ≤ g) : OwnI lo hi W' v zs :=
  ho.block fun g hg => h.block g (ho.lt hg).2.2 (fun e => by have := hne g e.symm; have := ho.lt hg; omega)
theorem cell_set2 {W : World} {b o b' o' : Nat} {x : Value} (hx : W.cell? ⟨b, o, none⟩ = some x) (hne : b ≠ b') (u : Value) : (W.setCell ⟨b', o', none⟩ u).cell? ⟨b, o, none⟩ = some x :=
  (World.cell?_of_block (Below.heap_setCell _ _ _ _ (by show b ≠ b'; exact hne))).trans hx
theorem grown_set (W : World) (b o : Nat) (u : Value) : W.grownBy (W.setCell ⟨b, o, none⟩ u) (some b) :=
  ⟨rfl, rfl, rfl, by rw [size_set]; exact Nat.le_refl _, fun k hk hne => Below.heap_setCell _ _ _ _ (fun e => hne (by rw [e]))⟩
theorem grown_trans {W W1 W2 : World} {row : Option Nat} (h : W.grownBy W1 row) (k : W1.grownBy W2 row) : W.grownBy W2 row :=
  ⟨k.os.trans h.os, k.tape.trans h.tape, k.output.trans h.output, Nat.le_trans h.size k.size, fun i hi hn => (k.block i (Nat.lt_of_lt_of_le hi h.size) hn).trans (h.block i hi hn)⟩
theorem own_narrow {W : World} {lo gg cap : Nat} {l : List Int} {z : Int} (h : W.ownsRow lo 3 1 (.slice (some ⟨gg, 0, none⟩) (l.length + 1) cap) (l.length + 1) (l.map (Value.int .i64) ++ [.int .i64 z])) : OwnI gg (gg + 1) W (.slice (some ⟨gg, 0, none⟩) (l.length + 1) cap) (l ++ [z]) := by
  have h2 : W.ownsRow lo 3 1 (.slice (some ⟨gg, 0, none⟩) (l.length + 1) cap) (l ++ [z]).length ((l ++ [z]).map (Value.int .i64)) := by simpa [List.map_append] using h
  exact ⟨ownsRow_base h2 (fun g e => by obtain rfl : gg = g := (by simpa [Value.ownBlock] using e); exact Nat.le_refl _), fun g e => by obtain rfl : gg = g := (by simpa [Value.ownBlock] using e); omega⟩
theorem own_put {W : World} {lo hi gg n cap : Nat} {l : List Int} (h : OwnI lo hi W (.slice (some ⟨gg, 0, none⟩) n cap) l) (hn : n = l.length) (k : Nat) (z : Int) : OwnI lo hi (W.setCell ⟨gg, k, none⟩ (.int .i64 z)) (.slice (some ⟨gg, 0, none⟩) n cap) (l.set k z) := by
  subst hn
  have := (h.1.stored k (.int .i64 z)).1
  rw [← List.map_set] at this
  exact ⟨by rw [List.length_set]; exact this, h.2⟩
theorem own_cell {W : World} {lo hi gg n cap : Nat} {l : List Int} (h : OwnI lo hi W (.slice (some ⟨gg, 0, none⟩) n cap) l) (hn : n = l.length) (k : Nat) (hk : k < l.length) : W.cell? ⟨gg, k, none⟩ = some (.int .i64 (l.getD k 0)) := by
  subst hn
  rw [h.1.cellAt k (by omega), List.getElem?_map, List.getElem?_eq_getElem hk, List.getD_eq_getElem?_getD, List.getElem?_eq_getElem hk]; rfl
theorem own_fro {W : World} {lo hi gg n cap : Nat} {l : List Int} (h : OwnI lo hi W (.slice (some ⟨gg, 0, none⟩) n cap) l) (hn : n = l.length) (k : Nat) : W.frozen? ⟨gg, k, none⟩ = false := by
  subst hn
  exact h.1.frozenAt k
/-- The same sets win. -/
def sameB (p p' : Nat → Bool) (N : Nat) : Bool := (List.range N).all fun k => p k == p' k
theorem same_no {p p' : Nat → Bool} {N : Nat} (k : Nat) (hk : k < N) (h : ¬ (p k = p' k)) : sameB p p' N = false := by
  unfold sameB
  rw [List.all_eq_false]
  exact ⟨k, List.mem_range.2 hk, by simpa using h⟩
theorem same_yes {p p' : Nat → Bool} {N : Nat} (h : ∀ k, k < N → p k = p' k) : sameB p p' N = true := by
  unfold sameB
  rw [List.all_eq_true]
  intro k hk
  rw [h k (List.mem_range.1 hk)]; simp
set_option maxRecDepth 100000 in
set_option maxHeartbeats 4000000 in
theorem spec_no1 (a : Option Addr) (ws : List Int) (c : Nat) (q : Int) (a' : Option Addr) (zs : List Int) (c' : Nat) (q' : Int) (w : World) (hr : ints.Reads .i64 w a ws) (hz : ints.Reads .i64 w a' zs) (hn : ws.length ≤ 1048576) (hm : zs.length ≤ 1048576) (h : Hid (voteB ws q = false)) :
    Calls Try.prog 26 #[.agg #[.slice a ws.length c, .int .i64 q], .agg #[.slice a' zs.length c', .int .i64 q']] w (RetBB false false w) := by
  have Hhr := Lib.hid hr
  have Hhz := Lib.hid hz
  clear hr hz
  go_enter Try.func26, Try.ntmps26
  go_wp2_with fail
  have x0_0 : (w.alloc (.cells #[.slice a ws.length c, .int .i64 q] 29)).cell? ⟨w.heap.size, 0, none⟩ = some (.slice a ws.length c) := cell_new _ _ _ (by simp) rfl
  have x0_1 : (w.alloc (.cells #[.slice a ws.length c, .int .i64 q] 29)).cell? ⟨w.heap.size, 1, none⟩ = some (.int .i64 q) := cell_new _ _ _ (by simp) rfl
  have HB0 := Lib.hid (below_alloc w (.cells #[.slice a ws.length c, .int .i64 q] 29))
  replace x0_0 := cell_old (.cells #[.slice a' zs.length c', .int .i64 q'] 29) x0_0
  replace x0_1 := cell_old (.cells #[.slice a' zs.length c', .int .i64 q'] 29) x0_1
  have x1_0 : ((w.alloc (.cells #[.slice a ws.length c, .int .i64 q] 29)).alloc (.cells #[.slice a' zs.length c', .int .i64 q'] 29)).cell? ⟨w.heap.size + 1, 0, none⟩ = some (.slice a' zs.length c') := cell_new _ _ _ (by simp) rfl
  have x1_1 : ((w.alloc (.cells #[.slice a ws.length c, .int .i64 q] 29)).alloc (.cells #[.slice a' zs.length c', .int .i64 q'] 29)).cell? ⟨w.heap.size + 1, 1, none⟩ = some (.int .i64 q') := cell_new _ _ _ (by simp) rfl
  replace HB0 := Lib.hid (HB0.out.alloc (by simp) (.cells #[.slice a' zs.length c', .int .i64 q'] 29))
  have s0 : w.heap.size + 2 ≤ ((w.alloc (.cells #[.slice a ws.length c, .int .i64 q] 29)).alloc (.cells #[.slice a' zs.length c', .int .i64 q'] 29)).heap.size := by simp
  generalize hw : ((w.alloc (.cells #[.slice a ws.length c, .int .i64 q] 29)).alloc (.cells #[.slice a' zs.length c', .int .i64 q'] 29)) = w0 at *
  clear hw
  have n0_0 : w.heap.size < w0.heap.size := by omega
  have n0_1 : w.heap.size + 1 < w0.heap.size := by omega
  refine (vote.spec_vote a ws c q _ (Hhr.out.below HB0.out) hn false h).mono ?_
  rintro e w1 ⟨rfl, hb⟩
  have s1 : w0.heap.size ≤ w1.heap.size := hb.size
  have n1_0 : w.heap.size < w1.heap.size := by omega
  have n1_1 : w.heap.size + 1 < w1.heap.size := by omega
  replace x0_0 := cell_below hb x0_0 (by omega)
  replace x0_1 := cell_below hb x0_1 (by omega)
  replace x1_0 := cell_below hb x1_0 (by omega)
  replace x1_1 := cell_below hb x1_1 (by omega)
  have HB1 := Lib.hid (HB0.out.trans (hb.mono (by omega)))
  clear hb
  go_wp2_with fail
  go_ret2
  exact ⟨rfl, HB1.out⟩
set_option maxRecDepth 100000 in
set_option maxHeartbeats 4000000 in
theorem spec_no2 (a : Option Addr) (ws : List Int) (c : Nat) (q : Int) (a' : Option Addr) (zs : List Int) (c' : Nat) (q' : Int) (w : World) (hr : ints.Reads .i64 w a ws) (hz : ints.Reads .i64 w a' zs) (hn : ws.length ≤ 1048576) (hm : zs.length ≤ 1048576) (h : Hid (voteB ws q = true)) (h2 : Hid (voteB zs q' = false)) :
    Calls Try.prog 26 #[.agg #[.slice a ws.length c, .int .i64 q], .agg #[.slice a' zs.length c', .int .i64 q']] w (RetBB false false w) := by
  have Hhr := Lib.hid hr
  have Hhz := Lib.hid hz
  clear hr hz
  go_enter Try.func26, Try.ntmps26
  go_wp2_with fail
  have x0_0 : (w.alloc (.cells #[.slice a ws.length c, .int .i64 q] 29)).cell? ⟨w.heap.size, 0, none⟩ = some (.slice a ws.length c) := cell_new _ _ _ (by simp) rfl
  have x0_1 : (w.alloc (.cells #[.slice a ws.length c, .int .i64 q] 29)).cell? ⟨w.heap.size, 1, none⟩ = some (.int .i64 q) := cell_new _ _ _ (by simp) rfl
  have HB0 := Lib.hid (below_alloc w (.cells #[.slice a ws.length c, .int .i64 q] 29))
  replace x0_0 := cell_old (.cells #[.slice a' zs.length c', .int .i64 q'] 29) x0_0
  replace x0_1 := cell_old (.cells #[.slice a' zs.length c', .int .i64 q'] 29) x0_1
  have x1_0 : ((w.alloc (.cells #[.slice a ws.length c, .int .i64 q] 29)).alloc (.cells #[.slice a' zs.length c', .int .i64 q'] 29)).cell? ⟨w.heap.size + 1, 0, none⟩ = some (.slice a' zs.length c') := cell_new _ _ _ (by simp) rfl
  have x1_1 : ((w.alloc (.cells #[.slice a ws.length c, .int .i64 q] 29)).alloc (.cells #[.slice a' zs.length c', .int .i64 q'] 29)).cell? ⟨w.heap.size + 1, 1, none⟩ = some (.int .i64 q') := cell_new _ _ _ (by simp) rfl
  replace HB0 := Lib.hid (HB0.out.alloc (by simp) (.cells #[.slice a' zs.length c', .int .i64 q'] 29))
  have s0 : w.heap.size + 2 ≤ ((w.alloc (.cells #[.slice a ws.length c, .int .i64 q] 29)).alloc (.cells #[.slice a' zs.length c', .int .i64 q'] 29)).heap.size := by simp
  generalize hw : ((w.alloc (.cells #[.slice a ws.length c, .int .i64 q] 29)).alloc (.cells #[.slice a' zs.length c', .int .i64 q'] 29)) = w0 at *
  clear hw
  have n0_0 : w.heap.size < w0.heap.size := by omega
  have n0_1 : w.heap.size + 1 < w0.heap.size := by omega
  refine (vote.spec_vote a ws c q _ (Hhr.out.below HB0.out) hn true h).mono ?_
  rintro e w1 ⟨rfl, hb⟩
  have s1 : w0.heap.size ≤ w1.heap.size := hb.size
  have n1_0 : w.heap.size < w1.heap.size := by omega
  have n1_1 : w.heap.size + 1 < w1.heap.size := by omega
  replace x0_0 := cell_below hb x0_0 (by omega)
  replace x0_1 := cell_below hb x0_1 (by omega)
  replace x1_0 := cell_below hb x1_0 (by omega)
  replace x1_1 := cell_below hb x1_1 (by omega)
  have HB1 := Lib.hid (HB0.out.trans (hb.mono (by omega)))
  clear hb
  go_wp2_with fail
  refine (vote.spec_vote a' zs c' q' _ (Hhz.out.below HB1.out) hm false h2).mono ?_
  rintro e w2 ⟨rfl, hb⟩
  have s2 : w1.heap.size ≤ w2.heap.size := hb.size
  have n2_0 : w.heap.size < w2.heap.size := by omega
  have n2_1 : w.heap.size + 1 < w2.heap.size := by omega
  replace x0_0 := cell_below hb x0_0 (by omega)
  replace x0_1 := cell_below hb x0_1 (by omega)
  replace x1_0 := cell_below hb x1_0 (by omega)
  replace x1_1 := cell_below hb x1_1 (by omega)
  have HB2 := Lib.hid (HB1.out.trans (hb.mono (by omega)))
  clear hb
  go_wp2_with fail
  go_ret2
  exact ⟨rfl, HB2.out⟩
set_option maxRecDepth 100000 in
set_option maxHeartbeats 4000000 in
theorem spec_no3 (a : Option Addr) (ws : List Int) (c : Nat) (q : Int) (a' : Option Addr) (zs : List Int) (c' : Nat) (q' : Int) (w : World) (hr : ints.Reads .i64 w a ws) (hz : ints.Reads .i64 w a' zs) (hn : ws.length ≤ 1048576) (hm : zs.length ≤ 1048576) (h : Hid (voteB ws q = true)) (h2 : Hid (voteB zs q' = true)) (hne : ¬ ((ws.length : Int) = (zs.length : Int))) :
    Calls Try.prog 26 #[.agg #[.slice a ws.length c, .int .i64 q], .agg #[.slice a' zs.length c', .int .i64 q']] w (RetBB false false w) := by
  have Hhr := Lib.hid hr
  have Hhz := Lib.hid hz
  clear hr hz
  go_enter Try.func26, Try.ntmps26
  go_wp2_with fail
  have x0_0 : (w.alloc (.cells #[.slice a ws.length c, .int .i64 q] 29)).cell? ⟨w.heap.size, 0, none⟩ = some (.slice a ws.length c) := cell_new _ _ _ (by simp) rfl
  have x0_1 : (w.alloc (.cells #[.slice a ws.length c, .int .i64 q] 29)).cell? ⟨w.heap.size, 1, none⟩ = some (.int .i64 q) := cell_new _ _ _ (by simp) rfl
  have HB0 := Lib.hid (below_alloc w (.cells #[.slice a ws.length c, .int .i64 q] 29))
  replace x0_0 := cell_old (.cells #[.slice a' zs.length c', .int .i64 q'] 29) x0_0
  replace x0_1 := cell_old (.cells #[.slice a' zs.length c', .int .i64 q'] 29) x0_1
  have x1_0 : ((w.alloc (.cells #[.slice a ws.length c, .int .i64 q] 29)).alloc (.cells #[.slice a' zs.length c', .int .i64 q'] 29)).cell? ⟨w.heap.size + 1, 0, none⟩ = some (.slice a' zs.length c') := cell_new _ _ _ (by simp) rfl
  have x1_1 : ((w.alloc (.cells #[.slice a ws.length c, .int .i64 q] 29)).alloc (.cells #[.slice a' zs.length c', .int .i64 q'] 29)).cell? ⟨w.heap.size + 1, 1, none⟩ = some (.int .i64 q') := cell_new _ _ _ (by simp) rfl
  replace HB0 := Lib.hid (HB0.out.alloc (by simp) (.cells #[.slice a' zs.length c', .int .i64 q'] 29))
  have s0 : w.heap.size + 2 ≤ ((w.alloc (.cells #[.slice a ws.length c, .int .i64 q] 29)).alloc (.cells #[.slice a' zs.length c', .int .i64 q'] 29)).heap.size := by simp
  generalize hw : ((w.alloc (.cells #[.slice a ws.length c, .int .i64 q] 29)).alloc (.cells #[.slice a' zs.length c', .int .i64 q'] 29)) = w0 at *
  clear hw
  have n0_0 : w.heap.size < w0.heap.size := by omega
  have n0_1 : w.heap.size + 1 < w0.heap.size := by omega
  refine (vote.spec_vote a ws c q _ (Hhr.out.below HB0.out) hn true h).mono ?_
  rintro e w1 ⟨rfl, hb⟩
  have s1 : w0.heap.size ≤ w1.heap.size := hb.size
  have n1_0 : w.heap.size < w1.heap.size := by omega
  have n1_1 : w.heap.size + 1 < w1.heap.size := by omega
  replace x0_0 := cell_below hb x0_0 (by omega)
  replace x0_1 := cell_below hb x0_1 (by omega)
  replace x1_0 := cell_below hb x1_0 (by omega)
  replace x1_1 := cell_below hb x1_1 (by omega)
  have HB1 := Lib.hid (HB0.out.trans (hb.mono (by omega)))
  clear hb
  go_wp2_with fail
  refine (vote.spec_vote a' zs c' q' _ (Hhz.out.below HB1.out) hm true h2).mono ?_
  rintro e w2 ⟨rfl, hb⟩
  have s2 : w1.heap.size ≤ w2.heap.size := hb.size
  have n2_0 : w.heap.size < w2.heap.size := by omega
  have n2_1 : w.heap.size + 1 < w2.heap.size := by omega
  replace x0_0 := cell_below hb x0_0 (by omega)
  replace x0_1 := cell_below hb x0_1 (by omega)
  replace x1_0 := cell_below hb x1_0 (by omega)
  replace x1_1 := cell_below hb x1_1 (by omega)
  have HB2 := Lib.hid (HB1.out.trans (hb.mono (by omega)))
  clear hb
  go_wp2_with fail
  go_ret2
  exact ⟨rfl, HB2.out⟩
set_option maxRecDepth 100000 in
set_option maxHeartbeats 4000000 in
theorem spec_yes (a : Option Addr) (ws : List Int) (c : Nat) (q : Int) (a' : Option Addr) (zs : List Int) (c' : Nat) (q' : Int) (w : World) (hr : ints.Reads .i64 w a ws) (hz : ints.Reads .i64 w a' zs) (hn : ws.length ≤ 1048576) (hm : zs.length ≤ 1048576) (h : Hid (voteB ws q = true)) (h2 : Hid (voteB zs q' = true)) (hl : Hid (zs.length = ws.length)) :
    Calls Try.prog 26 #[.agg #[.slice a ws.length c, .int .i64 q], .agg #[.slice a' zs.length c', .int .i64 q']] w (RetBB (sameB (winB ws q) (winB zs q') (2 ^ ws.length)) true w) := by
  have h18 := ((vote_iff _ _).1 h.out).1
  have h18' := ((vote_iff _ _).1 h2.out).1
  have hzz := ((vote_iff _ _).1 h.out).2.1
  have hzz' := ((vote_iff _ _).1 h2.out).2.1
  have hp12 := bits8.pow8 h18.2
  have HV1 := Lib.hid (fun (wa : World) (hb : Below w.heap.size w wa) => vote.spec_vote a ws c q wa (hr.below hb) hn true h)
  have HV2 := Lib.hid (fun (wa : World) (hb : Below w.heap.size w wa) => vote.spec_vote a' zs c' q' wa (hz.below hb) hm true h2)
  have HW1 := Lib.hid (fun (wa : World) (hb : Below w.heap.size w wa) => wins.spec_wins a ws c q wa (hr.below hb) hn h18.2 hzz)
  have HW2 := Lib.hid (fun (wa : World) (hb : Below w.heap.size w wa) => wins.spec_wins a' zs c' q' wa (hz.below hb) hm h18'.2 hzz')
  clear hr hz h h2 hzz hzz'
  rw [hl.out] at HV2 HW2 ⊢
  clear hl h18'
  generalize winB ws q = p1 at *
  generalize winB zs q' = p2 at *
  obtain ⟨N, hN⟩ : ∃ N : Nat, 2 ^ ws.length = N := ⟨_, rfl⟩
  rw [hN] at hp12 HW1 HW2 ⊢
  clear hN
  go_enter Try.func26, Try.ntmps26
  go_wp2_with fail
  have x0_0 : (w.alloc (.cells #[.slice a ws.length c, .int .i64 q] 29)).cell? ⟨w.heap.size, 0, none⟩ = some (.slice a ws.length c) := cell_new _ _ _ (by simp) rfl
  have x0_1 : (w.alloc (.cells #[.slice a ws.length c, .int .i64 q] 29)).cell? ⟨w.heap.size, 1, none⟩ = some (.int .i64 q) := cell_new _ _ _ (by simp) rfl
  have HB0 := Lib.hid (below_alloc w (.cells #[.slice a ws.length c, .int .i64 q] 29))
  replace x0_0 := cell_old (.cells #[.slice a' ws.length c', .int .i64 q'] 29) x0_0
  replace x0_1 := cell_old (.cells #[.slice a' ws.length c', .int .i64 q'] 29) x0_1
  have x1_0 : ((w.alloc (.cells #[.slice a ws.length c, .int .i64 q] 29)).alloc (.cells #[.slice a' ws.length c', .int .i64 q'] 29)).cell? ⟨w.heap.size + 1, 0, none⟩ = some (.slice a' ws.length c') := cell_new _ _ _ (by simp) rfl
  have x1_1 : ((w.alloc (.cells #[.slice a ws.length c, .int .i64 q] 29)).alloc (.cells #[.slice a' ws.length c', .int .i64 q'] 29)).cell? ⟨w.heap.size + 1, 1, none⟩ = some (.int .i64 q') := cell_new _ _ _ (by simp) rfl
  replace HB0 := Lib.hid (HB0.out.alloc (by simp) (.cells #[.slice a' ws.length c', .int .i64 q'] 29))
  have s0 : w.heap.size + 2 ≤ ((w.alloc (.cells #[.slice a ws.length c, .int .i64 q] 29)).alloc (.cells #[.slice a' ws.length c', .int .i64 q'] 29)).heap.size := by simp
  generalize hw : ((w.alloc (.cells #[.slice a ws.length c, .int .i64 q] 29)).alloc (.cells #[.slice a' ws.length c', .int .i64 q'] 29)) = w0 at *
  clear hw
  have n0_0 : w.heap.size < w0.heap.size := by omega
  have n0_1 : w.heap.size + 1 < w0.heap.size := by omega
  refine (HV1.out _ HB0.out).mono ?_
  rintro e w1 ⟨rfl, hb⟩
  have s1 : w0.heap.size ≤ w1.heap.size := hb.size
  have n1_0 : w.heap.size < w1.heap.size := by omega
  have n1_1 : w.heap.size + 1 < w1.heap.size := by omega
  replace x0_0 := cell_below hb x0_0 (by omega)
  replace x0_1 := cell_below hb x0_1 (by omega)
  replace x1_0 := cell_below hb x1_0 (by omega)
  replace x1_1 := cell_below hb x1_1 (by omega)
  have HB1 := Lib.hid (HB0.out.trans (hb.mono (by omega)))
  clear hb
  go_wp2_with fail
  refine (HV2.out _ HB1.out).mono ?_
  rintro e w2 ⟨rfl, hb⟩
  have s2 : w1.heap.size ≤ w2.heap.size := hb.size
  have n2_0 : w.heap.size < w2.heap.size := by omega
  have n2_1 : w.heap.size + 1 < w2.heap.size := by omega
  replace x0_0 := cell_below hb x0_0 (by omega)
  replace x0_1 := cell_below hb x0_1 (by omega)
  replace x1_0 := cell_below hb x1_0 (by omega)
  replace x1_1 := cell_below hb x1_1 (by omega)
  have HB2 := Lib.hid (HB1.out.trans (hb.mono (by omega)))
  clear hb
  go_wp2_with fail
  refine wp_region_noPanic ?_
  refine wp_region_held_drew (S := fun w' => w'.cell? ⟨w.heap.size, 0, none⟩ = some (.slice a ws.length c) ∧ w'.cell? ⟨w.heap.size, 1, none⟩ = some (.int .i64 q) ∧ w'.cell? ⟨w.heap.size + 1, 0, none⟩ = some (.slice a' ws.length c') ∧ w'.cell? ⟨w.heap.size + 1, 1, none⟩ = some (.int .i64 q')) (by kernel_rfl) ?_ (fun hHeld => ?_)
  · exact ⟨x0_0, x0_1, x1_0, x1_1⟩
  have hb : Below w2.heap.size w2 w2.drew := (Below.refl _ _).drew
  generalize hwn : w2.drew = v11 at *
  clear hwn
  have sz11 : w2.heap.size ≤ v11.heap.size := hb.size
  replace x0_0 := cell_keep hb x0_0
  replace x0_1 := cell_keep hb x0_1
  replace x1_0 := cell_keep hb x1_0
  replace x1_1 := cell_keep hb x1_1
  have HBh11 := Lib.hid (HB2.out.trans (hb.mono (by have := HB2.out.size; omega)))
  clear hb
  refine wpAnyH_take (i := 0) (v := ?_) rfl (by kernel_rfl) (by kernel_rfl) (by kernel_rfl) (fun _ _ _ h => h) (Or.inl ⟨by rfl, ?_⟩) (by assumption) ?_
  rotate_left
  · intro w9 hSw; (try dsimp only at hSw); go_simp; try with_reducible rfl
  try simp only [List.getElem_toArray, List.getElem_cons_succ, List.getElem_cons_zero, Act.put, List.setIfInBounds_toArray, List.set_cons_zero, List.set_cons_succ]
  refine wpAnyH_take (i := 2) (v := ?_) rfl (by kernel_rfl) (by kernel_rfl) (by kernel_rfl) (fun _ _ _ h => h) (Or.inl ⟨by rfl, ?_⟩) (by assumption) ?_
  rotate_left
  · intro w9 hSw; (try dsimp only at hSw); go_simp; try with_reducible rfl
  try simp only [List.getElem_toArray, List.getElem_cons_succ, List.getElem_cons_zero, Act.put, List.setIfInBounds_toArray, List.set_cons_zero, List.set_cons_succ]
  refine wpAnyH_ready (rs := [1]) (by kernel_rfl) (by simp) ?_
  refine AllReadyH.cons rfl (fun K hK => ?_) AllReadyH.nil
  clear hHeld
  go_simp
  refine (HW1.out _ HBh11.out).mono ?_
  rintro e v12 ⟨v, rfl, how, hb⟩
  obtain ⟨g1, cb1, rfl, _, _, _, _, _⟩ := how.slice hp12.1
  have sz12 : v11.heap.size ≤ v12.heap.size := hb.size
  replace x0_0 := cell_keep hb x0_0
  replace x0_1 := cell_keep hb x0_1
  replace x1_0 := cell_keep hb x1_0
  replace x1_1 := cell_keep hb x1_1
  have HBh12 := Lib.hid (HBh11.out.trans (hb.mono (by have := HBh11.out.size; omega)))
  clear hb
  have HOA := Lib.hid how
  clear how
  refine hK.out _ _ ?_ (fun hHeld => ?_)
  · exact ⟨x0_0, x0_1, x1_0, x1_1⟩
  clear hK K
  try simp only [List.getElem_toArray, List.getElem_cons_succ, List.getElem_cons_zero, Act.put, List.setIfInBounds_toArray, List.set_cons_zero, List.set_cons_succ]
  refine wpAnyH_ready (rs := [3]) (by kernel_rfl) (by simp) ?_
  refine AllReadyH.cons rfl (fun K hK => ?_) AllReadyH.nil
  clear hHeld
  go_simp
  refine (HW2.out _ HBh12.out).mono ?_
  rintro e v13 ⟨v, rfl, how, hb⟩
  obtain ⟨g2, cb2, rfl, _, _, _, _, _⟩ := how.slice hp12.1
  have sz13 : v12.heap.size ≤ v13.heap.size := hb.size
  replace x0_0 := cell_keep hb x0_0
  replace x0_1 := cell_keep hb x0_1
  replace x1_0 := cell_keep hb x1_0
  replace x1_1 := cell_keep hb x1_1
  replace HOA := Lib.hid (HOA.out.below hb)
  have HBh13 := Lib.hid (HBh12.out.trans (hb.mono (by have := HBh12.out.size; omega)))
  clear hb
  have HOB := Lib.hid how
  clear how
  refine hK.out _ _ ?_ (fun hHeld => ?_)
  · exact ⟨x0_0, x0_1, x1_0, x1_1⟩
  clear hK K
  try simp only [List.getElem_toArray, List.getElem_cons_succ, List.getElem_cons_zero, Act.put, List.setIfInBounds_toArray, List.set_cons_zero, List.set_cons_succ]
  refine wpAnyH_take (i := 4) (v := ?_) rfl (by kernel_rfl) (by kernel_rfl) (by kernel_rfl) (fun _ _ _ h => h) (Or.inl ⟨by rfl, ?_⟩) (by assumption) ?_
  rotate_left
  · intro w9 hSw; (try dsimp only at hSw); go_simp; try with_reducible rfl
  try simp only [List.getElem_toArray, List.getElem_cons_succ, List.getElem_cons_zero, Act.put, List.setIfInBounds_toArray, List.set_cons_zero, List.set_cons_succ]
  refine wpAnyH_take (i := 5) (v := ?_) rfl (by kernel_rfl) (by kernel_rfl) (by kernel_rfl) (fun _ _ _ h => h) (Or.inl ⟨by rfl, ?_⟩) (by assumption) ?_
  rotate_left
  · intro w9 hSw; (try dsimp only at hSw); go_simp; try with_reducible rfl
  try simp only [List.getElem_toArray, List.getElem_cons_succ, List.getElem_cons_zero, Act.put, List.setIfInBounds_toArray, List.set_cons_zero, List.set_cons_succ]
  refine wpAnyH_done (by kernel_rfl) ?_ _
  refine NoPanic.normal ?_
  clear hHeld
  obtain ⟨gq, cq, he, _, _, _, _, hca⟩ := HOA.out.slice hp12.1
  cases he
  obtain ⟨gq, cq, he, _, _, _, _, hcb⟩ := HOB.out.slice hp12.1
  cases he
  have HX0 := Lib.hid (show True from trivial)
  clear HOA HOB HW1 HW2 HV1 HV2 x0_0 x0_1 x1_0 x1_1
  go_wp2_with fail
  go_loopw [8] (fun i wr => ∃ k : Nat, k ≤ N ∧ i = .int .i64 k ∧ Hid (∀ j, j < k → p1 j = p2 j) ∧ ∃ m, wr = v13.drewN m) (fun i _ => N - (intOf i).toNat)
  case atStart => exact ⟨0, Nat.zero_le _, rfl, Lib.hid (fun j hj => by omega), 0, rfl⟩
  case round =>
    obtain ⟨k, hk, rfl, hj, m, rfl⟩ := hrel
    have HM := Lib.hid (show ∀ n, ∃ q, (v13.drewN m).drewN n = v13.drewN q from fun n => ⟨_, World.drewN_drewN _ _ _⟩)
    have HBd := Lib.hid (fun n => HBh13.out.trans ((ints.below_drewN (Below.refl v13.heap.size v13) n).mono (by have := HBh13.out.size; omega)))
    by_cases hlt : k < N
    · have c1 : (v13.drewN m).cell? ⟨g1, k, none⟩ = some (.bool (p1 k)) := hca k hlt
      have c2 : (v13.drewN m).cell? ⟨g2, k, none⟩ = some (.bool (p2 k)) := hcb k hlt
      have i1 : (0 : Int) ≤ (k : Int) := by omega
      have i2 : (k : Int) < (N : Int) := by omega
      cases hx : p1 k
      · rw [hx] at c1
        cases hy : p2 k
        · rw [hy] at c2
          have HJ : Hid (∀ j, j < k + 1 → p1 j = p2 j) := fun j h => by
            by_cases e : j = k
            · rw [e, hx, hy]
            · exact hj.out j (by omega)
          clear hx hy hj hca hcb
          generalize v13.drewN m = wm at *
          go_wp2_with fail
          go_quiet (fail)
          go_wp2_with fail
          go_roundw
          case rel => exact ⟨k + 1, by omega, by go_num, HJ, HM.out _⟩
          case measure => simp [intOf]; omega
        · rw [hy] at c2
          have HNO := Lib.hid (same_no (p := p1) (p' := p2) k hlt (by rw [hx, hy]; simp))
          clear hx hy hj hca hcb
          generalize sameB p1 p2 N = ok at *
          obtain rfl : ok = false := HNO.out
          clear HNO
          have HBd2 := Lib.hid (show ∀ n, Below w.heap.size w ((v13.drewN m).drewN n) from fun n => by obtain ⟨qq, hq⟩ := HM.out n; rw [hq]; exact HBd.out qq)
          clear HM HBd
          generalize v13.drewN m = wm at *
          go_wp2_with fail
          go_quiet (fail)
          go_wp2_with fail
          go_ret2
          exact ⟨rfl, HBd2.out _⟩
      · rw [hx] at c1
        cases hy : p2 k
        · rw [hy] at c2
          have HNO := Lib.hid (same_no (p := p1) (p' := p2) k hlt (by rw [hx, hy]; simp))
          clear hx hy hj hca hcb
          generalize sameB p1 p2 N = ok at *
          obtain rfl : ok = false := HNO.out
          clear HNO
          have HBd2 := Lib.hid (show ∀ n, Below w.heap.size w ((v13.drewN m).drewN n) from fun n => by obtain ⟨qq, hq⟩ := HM.out n; rw [hq]; exact HBd.out qq)
          clear HM HBd
          generalize v13.drewN m = wm at *
          go_wp2_with fail
          go_quiet (fail)
          go_wp2_with fail
          go_ret2
          exact ⟨rfl, HBd2.out _⟩
        · rw [hy] at c2
          have HJ : Hid (∀ j, j < k + 1 → p1 j = p2 j) := fun j h => by
            by_cases e : j = k
            · rw [e, hx, hy]
            · exact hj.out j (by omega)
          clear hx hy hj hca hcb
          generalize v13.drewN m = wm at *
          go_wp2_with fail
          go_quiet (fail)
          go_wp2_with fail
          go_roundw
          case rel => exact ⟨k + 1, by omega, by go_num, HJ, HM.out _⟩
          case measure => simp [intOf]; omega
    · obtain rfl : k = N := by omega
      have HY := Lib.hid (same_yes hj.out)
      clear hj hca hcb
      generalize sameB p1 p2 k = ok at *
      obtain rfl : ok = true := HY.out
      clear HY
      go_wp2_with fail
      go_ret2
      exact ⟨rfl, HBd.out _⟩
end Go.Proofs.Ytplhcboecjegjaa.sames
