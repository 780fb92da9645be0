/- The walk of BothTable: the program's. -/
import Derived.Test.YtplhcboecjegjaaToldV
import Derived.Test.YtplhcboecjegjaaSplitP
import Derived.Deep.RegionHeld3
import Derived.Deep.DrawnRows
import Derived.Deep.AppendLies
import Derived.Laws.Rows
import Derived.Test.YtplhcboecjegjaaSetCell
namespace Go.Proofs.Ytplhcboecjegjaa.bothi
open Go.RowKit own pp nums pv planetable tables splitp
set_option linter.unusedVariables false
attribute [local go_sem ↓] Go.wp_at_zero Go.wp_at_succ
set_option linter.unusedSimpArgs false

theorem cell_keep {W W' : World} (h : Below W.heap.size W W') {b o : Nat} {x : Value} (hx : W.cell? ⟨b, o, none⟩ = some x) : W'.cell? ⟨b, o, none⟩ = some x :=
  cell_below h hx (block_lt_of_cell (a := ⟨b, o, none⟩) hx)
theorem fro_keep {W W' : World} (h : Below W.heap.size W W') {b o o' : Nat} {x : Value} (hx : W.cell? ⟨b, o', none⟩ = some x) (hf : W.frozen? ⟨b, o, none⟩ = false) : W'.frozen? ⟨b, o, none⟩ = false :=
  fro_below h hf (block_lt_of_cell (a := ⟨b, o', none⟩) hx)
theorem cell_grow {W W' : World} {row : Option Nat} (h : W.grownBy W' row) {b o : Nat} {x : Value} (hx : W.cell? ⟨b, o, none⟩ = some x) (hne : ∀ g, row = some g → b ≠ g) : W'.cell? ⟨b, o, none⟩ = some x :=
  (World.cell?_of_block (h.block b (block_lt_of_cell (a := ⟨b, o, none⟩) hx) (fun e => hne b e.symm rfl))).trans hx
theorem fro_grow {W W' : World} {row : Option Nat} (h : W.grownBy W' row) {b o o' : Nat} {x : Value} (hx : W.cell? ⟨b, o', none⟩ = some x) (hf : W.frozen? ⟨b, o, none⟩ = false) (hne : ∀ g, row = some g → b ≠ g) : W'.frozen? ⟨b, o, none⟩ = false :=
  (World.frozen?_of_block (a := ⟨b, o, none⟩) (h.block b (block_lt_of_cell (a := ⟨b, o', none⟩) hx) (fun e => hne b e.symm rfl))).trans hf
theorem own_grow {W W' : World} {row : Option Nat} (h : W.grownBy W' row) {lo hi : Nat} {v : Value} {zs : List Int} (ho : OwnI lo hi W v zs) (hne : ∀ g, row = some g → g < lo ∨ hi ≤ g) : OwnI lo hi W' v zs :=
  ho.block fun g hg => h.block g (ho.lt hg).2.2 (fun e => by have := hne g e.symm; have := ho.lt hg; omega)
theorem cell_set2 {W : World} {b o b' o' : Nat} {x : Value} (hx : W.cell? ⟨b, o, none⟩ = some x) (hne : b ≠ b') (u : Value) : (W.setCell ⟨b', o', none⟩ u).cell? ⟨b, o, none⟩ = some x :=
  (World.cell?_of_block (Below.heap_setCell _ _ _ _ (by show b ≠ b'; exact hne))).trans hx
theorem grown_set (W : World) (b o : Nat) (u : Value) : W.grownBy (W.setCell ⟨b, o, none⟩ u) (some b) :=
  ⟨rfl, rfl, rfl, by rw [size_set]; exact Nat.le_refl _, fun k hk hne => Below.heap_setCell _ _ _ _ (fun e => hne (by rw [e]))⟩
theorem grown_trans {W W1 W2 : World} {row : Option Nat} (h : W.grownBy W1 row) (k : W1.grownBy W2 row) : W.grownBy W2 row :=
  ⟨k.os.trans h.os, k.tape.trans h.tape, k.output.trans h.output, Nat.le_trans h.size k.size, fun i hi hn => (k.block i (Nat.lt_of_lt_of_le hi h.size) hn).trans (h.block i hi hn)⟩
theorem own_narrow {W : World} {lo gg cap : Nat} {l : List Int} {z : Int} (h : W.ownsRow lo 3 1 (.slice (some ⟨gg, 0, none⟩) (l.length + 1) cap) (l.length + 1) (l.map (Value.int .i64) ++ [.int .i64 z])) : OwnI gg (gg + 1) W (.slice (some ⟨gg, 0, none⟩) (l.length + 1) cap) (l ++ [z]) := by
  have h2 : W.ownsRow lo 3 1 (.slice (some ⟨gg, 0, none⟩) (l.length + 1) cap) (l ++ [z]).length ((l ++ [z]).map (Value.int .i64)) := by simpa [List.map_append] using h
  exact ⟨ownsRow_base h2 (fun g e => by obtain rfl : gg = g := (by simpa [Value.ownBlock] using e); exact Nat.le_refl _), fun g e => by obtain rfl : gg = g := (by simpa [Value.ownBlock] using e); omega⟩
theorem own_put {W : World} {lo hi gg n cap : Nat} {l : List Int} (h : OwnI lo hi W (.slice (some ⟨gg, 0, none⟩) n cap) l) (hn : n = l.length) (k : Nat) (z : Int) : OwnI lo hi (W.setCell ⟨gg, k, none⟩ (.int .i64 z)) (.slice (some ⟨gg, 0, none⟩) n cap) (l.set k z) := by
  subst hn
  have := (h.1.stored k (.int .i64 z)).1
  rw [← List.map_set] at this
  exact ⟨by rw [List.length_set]; exact this, h.2⟩
theorem own_cell {W : World} {lo hi gg n cap : Nat} {l : List Int} (h : OwnI lo hi W (.slice (some ⟨gg, 0, none⟩) n cap) l) (hn : n = l.length) (k : Nat) (hk : k < l.length) : W.cell? ⟨gg, k, none⟩ = some (.int .i64 (l.getD k 0)) := by
  subst hn
  rw [h.1.cellAt k (by omega), List.getElem?_map, List.getElem?_eq_getElem hk, List.getD_eq_getElem?_getD, List.getElem?_eq_getElem hk]; rfl
theorem own_fro {W : World} {lo hi gg n cap : Nat} {l : List Int} (h : OwnI lo hi W (.slice (some ⟨gg, 0, none⟩) n cap) l) (hn : n = l.length) (k : Nat) : W.frozen? ⟨gg, k, none⟩ = false := by
  subst hn
  exact h.1.frozenAt k
/-- The products of the first k numbers of two lists. -/
def preTo (xs ys : List Int) (k : Nat) : List Int := (List.range k).map (fun i => xs.getD i 0 * ys.getD i 0)
/-- The first list with its first k numbers multiplied. -/
def mixTo (xs ys : List Int) (k : Nat) : List Int := (List.range xs.length).map (fun i => if i < k then xs.getD i 0 * ys.getD i 0 else xs.getD i 0)
theorem preTo_length (xs ys : List Int) (k : Nat) : (preTo xs ys k).length = k := by simp [preTo]
theorem preTo_succ (xs ys : List Int) (k : Nat) : preTo xs ys (k + 1) = preTo xs ys k ++ [xs.getD k 0 * ys.getD k 0] := by simp [preTo, List.range_succ]
theorem mixTo_length (xs ys : List Int) (k : Nat) : (mixTo xs ys k).length = xs.length := by simp [mixTo]
theorem mixTo_zero (xs ys : List Int) : mixTo xs ys 0 = xs := by
  refine List.ext_getElem (by simp [mixTo]) fun i h1 h2 => ?_
  simp [mixTo, List.getD_eq_getElem?_getD, List.getElem?_eq_getElem h2]
theorem mixTo_all (xs ys : List Int) : mixTo xs ys xs.length = preTo xs ys xs.length :=
  List.map_congr_left fun i hi => by rw [if_pos (List.mem_range.1 hi)]
theorem mixTo_at (xs ys : List Int) (k i : Nat) (h : i < xs.length) : (mixTo xs ys k).getD i 0 = if i < k then xs.getD i 0 * ys.getD i 0 else xs.getD i 0 := by
  rw [List.getD_eq_getElem?_getD]
  simp [mixTo, h]
theorem mixTo_succ (xs ys : List Int) (k : Nat) (h : k < xs.length) : (mixTo xs ys k).set k (xs.getD k 0 * ys.getD k 0) = mixTo xs ys (k + 1) := by
  refine List.ext_getElem (by simp [mixTo]) fun i h1 h2 => ?_
  rw [List.getElem_set]
  by_cases e : k = i
  · subst e; simp [mixTo]
  · rw [if_neg e]
    simp only [mixTo, List.getElem_map, List.getElem_range]
    by_cases e2 : i < k
    · rw [if_pos e2, if_pos (by omega)]
    · rw [if_neg e2, if_neg (by omega)]
theorem pow_inj {m n : Nat} (h : 2 ^ m = 2 ^ n) : m = n := by
  rcases Nat.lt_trichotomy m n with e | e | e
  · have := Nat.pow_lt_pow_right (a := 2) (by omega) e; omega
  · exact e
  · have := Nat.pow_lt_pow_right (a := 2) (by omega) e; omega
theorem tab_len (ws : List Int) (q : Int) : (tab ws q).length = 2 ^ ws.length := by unfold tab; rw [tabTo_length]
theorem tab_bit (ws : List Int) (q : Int) (k : Nat) (h : k < 2 ^ ws.length) : (tab ws q).getD k 0 = 0 ∨ (tab ws q).getD k 0 = 1 := by
  rw [List.getD_eq_getElem?_getD]
  simp only [tab, tabTo, List.getElem?_map, List.getElem?_range h, Option.map_some, Option.getD_some]
  unfold bitAt
  by_cases e : pp.side ws q (bitw.bitsTo k ws.length) = 1
  · rw [if_pos e]; exact .inr rfl
  · rw [if_neg e]; exact .inl rfl
/-- What VoteTable returns: any case. -/
theorem vt_any (a : Option Addr) (ws : List Int) (c : Nat) (q : Int) (w : World) (hr : ints.Reads .i64 w a ws) (hn : ws.length ≤ 1048576) :
    ∃ (l : List Int) (ok : Bool), (∀ (a : Option Addr) (c : Nat) (w : World), ints.Reads .i64 w a ws → Calls Try.prog 78 #[.agg #[.slice a ws.length c, .int .i64 q]] w (RetIB l ok w)) ∧ ((ok = true ∧ voteB ws q = true ∧ ws.length ≤ 4 ∧ l = tab ws q) ∨ (ok = false ∧ l = [] ∧ ¬ (voteB ws q = true ∧ ws.length ≤ 4))) := by
  cases hk : voteB ws q
  · exact ⟨[], false, fun a c w h => toldv.impl_no a ws c q w h hn hk, .inr ⟨rfl, rfl, fun e => by simp at e⟩⟩
  · by_cases h4 : ws.length ≤ 4
    · exact ⟨tab ws q, true, fun a c w h => toldv.impl_yes a ws c q w h hn hk h4, .inl ⟨rfl, rfl, h4, rfl⟩⟩
    · exact ⟨[], false, fun a c w h => toldv.impl_long a ws c q w h hn hk h4, .inr ⟨rfl, rfl, fun e => h4 e.2⟩⟩
theorem own_block {W : World} {lo hi n cap : Nat} {a : Option Addr} {l : List Int} (h : OwnI lo hi W (.slice a n cap) l) (h0 : 0 < l.length) : ∃ gg, a = some ⟨gg, 0, none⟩ ∧ lo ≤ gg ∧ gg < hi := by
  rcases h.1.2 with ⟨_, e⟩ | ⟨g, cp, cur, e, hb, _⟩
  · omega
  · injection e with e1 e2 e3
    subst e1
    have := h.lt (g := g) rfl
    exact ⟨g, rfl, this.1, this.2.1⟩
set_option maxRecDepth 100000 in
set_option maxHeartbeats 4000000 in
theorem impl_no (a : Option Addr) (ws : List Int) (c : Nat) (q : Int) (a' : Option Addr) (zs : List Int) (c' : Nat) (q' : Int) (w : World) (hr : ints.Reads .i64 w a ws) (hz : ints.Reads .i64 w a' zs) (hn : ws.length ≤ 1048576) (hm : zs.length ≤ 1048576) (hno : ¬ (voteB ws q = true ∧ voteB zs q' = true ∧ ws.length = zs.length ∧ ws.length ≤ 4)) :
    Calls Try.prog 34 #[.agg #[.slice a ws.length c, .int .i64 q], .agg #[.slice a' zs.length c', .int .i64 q']] w (RetIB [] false w) := by
  obtain ⟨l1, ok1, HA1, hc1⟩ := vt_any a ws c q w hr hn
  obtain ⟨l2, ok2, HA2, hc2⟩ := vt_any a' zs c' q' w hz hm
  rcases hc1 with ⟨rfl, hv1, h14, hl1⟩ | ⟨rfl, hl1, hx1⟩
  · rcases hc2 with ⟨rfl, hv2, h24, hl2⟩ | ⟨rfl, hl2, hx2⟩
    · have hne : ¬ ((l1.length : Int) = (l2.length : Int)) := by
        rw [hl1, hl2, tab_len, tab_len]
        intro e
        have h5 : ws.length ≠ zs.length := fun e => hno ⟨hv1, hv2, e, h14⟩
        have e2 : 2 ^ ws.length = 2 ^ zs.length := by exact_mod_cast e
        exact h5 (pow_inj e2)
      clear hl1 hl2 hv1 hv2 hno
      have Hhr := Lib.hid hr
      have Hhz := Lib.hid hz
      clear hr hz
      go_enter Try.func34, Try.ntmps34
      go_wp2_with fail
      have x0_0 : (w.alloc (.cells #[.slice a ws.length c, .int .i64 q] 29)).cell? ⟨w.heap.size, 0, none⟩ = some (.slice a ws.length c) := cell_new _ _ _ (by simp) rfl
      have x0_1 : (w.alloc (.cells #[.slice a ws.length c, .int .i64 q] 29)).cell? ⟨w.heap.size, 1, none⟩ = some (.int .i64 q) := cell_new _ _ _ (by simp) rfl
      have HB0 := Lib.hid (below_alloc w (.cells #[.slice a ws.length c, .int .i64 q] 29))
      replace x0_0 := cell_old (.cells #[.slice a' zs.length c', .int .i64 q'] 29) x0_0
      replace x0_1 := cell_old (.cells #[.slice a' zs.length c', .int .i64 q'] 29) x0_1
      have x1_0 : ((w.alloc (.cells #[.slice a ws.length c, .int .i64 q] 29)).alloc (.cells #[.slice a' zs.length c', .int .i64 q'] 29)).cell? ⟨w.heap.size + 1, 0, none⟩ = some (.slice a' zs.length c') := cell_new _ _ _ (by simp) rfl
      have x1_1 : ((w.alloc (.cells #[.slice a ws.length c, .int .i64 q] 29)).alloc (.cells #[.slice a' zs.length c', .int .i64 q'] 29)).cell? ⟨w.heap.size + 1, 1, none⟩ = some (.int .i64 q') := cell_new _ _ _ (by simp) rfl
      replace HB0 := Lib.hid (HB0.out.alloc (by simp) (.cells #[.slice a' zs.length c', .int .i64 q'] 29))
      have s0 : w.heap.size + 2 ≤ ((w.alloc (.cells #[.slice a ws.length c, .int .i64 q] 29)).alloc (.cells #[.slice a' zs.length c', .int .i64 q'] 29)).heap.size := by simp
      generalize hw : ((w.alloc (.cells #[.slice a ws.length c, .int .i64 q] 29)).alloc (.cells #[.slice a' zs.length c', .int .i64 q'] 29)) = w0 at *
      clear hw
      have n0_0 : w.heap.size < w0.heap.size := by omega
      have n0_1 : w.heap.size + 1 < w0.heap.size := by omega
      refine (HA1 _ _ _ (Hhr.out.below HB0.out)).mono ?_
      rintro e w1 ⟨vx, rfl, ho, hb⟩
      obtain ⟨px, qx, rfl, _, _, _⟩ := ho.slice
      have s1 : w0.heap.size ≤ w1.heap.size := hb.size
      have n1_0 : w.heap.size < w1.heap.size := by omega
      have n1_1 : w.heap.size + 1 < w1.heap.size := by omega
      replace x0_0 := cell_below hb x0_0 (by omega)
      replace x0_1 := cell_below hb x0_1 (by omega)
      replace x1_0 := cell_below hb x1_0 (by omega)
      replace x1_1 := cell_below hb x1_1 (by omega)
      have HB1 := Lib.hid (HB0.out.trans (hb.mono (by omega)))
      clear hb
      have Hx := Lib.hid ho
      clear ho
      go_wp2_with fail
      refine (HA2 _ _ _ (Hhz.out.below HB1.out)).mono ?_
      rintro e w2 ⟨vy, rfl, ho, hb⟩
      obtain ⟨py, qy, rfl, _, _, _⟩ := ho.slice
      have s2 : w1.heap.size ≤ w2.heap.size := hb.size
      have n2_0 : w.heap.size < w2.heap.size := by omega
      have n2_1 : w.heap.size + 1 < w2.heap.size := by omega
      replace x0_0 := cell_below hb x0_0 (by omega)
      replace x0_1 := cell_below hb x0_1 (by omega)
      replace x1_0 := cell_below hb x1_0 (by omega)
      replace x1_1 := cell_below hb x1_1 (by omega)
      replace Hx := Lib.hid (Hx.out.below hb)
      have HB2 := Lib.hid (HB1.out.trans (hb.mono (by omega)))
      clear hb
      have Hy := Lib.hid ho
      clear ho
      go_wp2_with fail
      go_ret2
      exact ret_empty HB2.out
    · clear hl1 hl2 hno hx2
      have Hhr := Lib.hid hr
      have Hhz := Lib.hid hz
      clear hr hz
      go_enter Try.func34, Try.ntmps34
      go_wp2_with fail
      have x0_0 : (w.alloc (.cells #[.slice a ws.length c, .int .i64 q] 29)).cell? ⟨w.heap.size, 0, none⟩ = some (.slice a ws.length c) := cell_new _ _ _ (by simp) rfl
      have x0_1 : (w.alloc (.cells #[.slice a ws.length c, .int .i64 q] 29)).cell? ⟨w.heap.size, 1, none⟩ = some (.int .i64 q) := cell_new _ _ _ (by simp) rfl
      have HB0 := Lib.hid (below_alloc w (.cells #[.slice a ws.length c, .int .i64 q] 29))
      replace x0_0 := cell_old (.cells #[.slice a' zs.length c', .int .i64 q'] 29) x0_0
      replace x0_1 := cell_old (.cells #[.slice a' zs.length c', .int .i64 q'] 29) x0_1
      have x1_0 : ((w.alloc (.cells #[.slice a ws.length c, .int .i64 q] 29)).alloc (.cells #[.slice a' zs.length c', .int .i64 q'] 29)).cell? ⟨w.heap.size + 1, 0, none⟩ = some (.slice a' zs.length c') := cell_new _ _ _ (by simp) rfl
      have x1_1 : ((w.alloc (.cells #[.slice a ws.length c, .int .i64 q] 29)).alloc (.cells #[.slice a' zs.length c', .int .i64 q'] 29)).cell? ⟨w.heap.size + 1, 1, none⟩ = some (.int .i64 q') := cell_new _ _ _ (by simp) rfl
      replace HB0 := Lib.hid (HB0.out.alloc (by simp) (.cells #[.slice a' zs.length c', .int .i64 q'] 29))
      have s0 : w.heap.size + 2 ≤ ((w.alloc (.cells #[.slice a ws.length c, .int .i64 q] 29)).alloc (.cells #[.slice a' zs.length c', .int .i64 q'] 29)).heap.size := by simp
      generalize hw : ((w.alloc (.cells #[.slice a ws.length c, .int .i64 q] 29)).alloc (.cells #[.slice a' zs.length c', .int .i64 q'] 29)) = w0 at *
      clear hw
      have n0_0 : w.heap.size < w0.heap.size := by omega
      have n0_1 : w.heap.size + 1 < w0.heap.size := by omega
      refine (HA1 _ _ _ (Hhr.out.below HB0.out)).mono ?_
      rintro e w1 ⟨vx, rfl, ho, hb⟩
      obtain ⟨px, qx, rfl, _, _, _⟩ := ho.slice
      have s1 : w0.heap.size ≤ w1.heap.size := hb.size
      have n1_0 : w.heap.size < w1.heap.size := by omega
      have n1_1 : w.heap.size + 1 < w1.heap.size := by omega
      replace x0_0 := cell_below hb x0_0 (by omega)
      replace x0_1 := cell_below hb x0_1 (by omega)
      replace x1_0 := cell_below hb x1_0 (by omega)
      replace x1_1 := cell_below hb x1_1 (by omega)
      have HB1 := Lib.hid (HB0.out.trans (hb.mono (by omega)))
      clear hb
      have Hx := Lib.hid ho
      clear ho
      go_wp2_with fail
      refine (HA2 _ _ _ (Hhz.out.below HB1.out)).mono ?_
      rintro e w2 ⟨vy, rfl, ho, hb⟩
      obtain ⟨py, qy, rfl, _, _, _⟩ := ho.slice
      have s2 : w1.heap.size ≤ w2.heap.size := hb.size
      have n2_0 : w.heap.size < w2.heap.size := by omega
      have n2_1 : w.heap.size + 1 < w2.heap.size := by omega
      replace x0_0 := cell_below hb x0_0 (by omega)
      replace x0_1 := cell_below hb x0_1 (by omega)
      replace x1_0 := cell_below hb x1_0 (by omega)
      replace x1_1 := cell_below hb x1_1 (by omega)
      replace Hx := Lib.hid (Hx.out.below hb)
      have HB2 := Lib.hid (HB1.out.trans (hb.mono (by omega)))
      clear hb
      have Hy := Lib.hid ho
      clear ho
      go_wp2_with fail
      go_ret2
      exact ret_empty HB2.out
  · clear hl1 hc2 hno hx1
    have Hhr := Lib.hid hr
    have Hhz := Lib.hid hz
    clear hr hz
    go_enter Try.func34, Try.ntmps34
    go_wp2_with fail
    have x0_0 : (w.alloc (.cells #[.slice a ws.length c, .int .i64 q] 29)).cell? ⟨w.heap.size, 0, none⟩ = some (.slice a ws.length c) := cell_new _ _ _ (by simp) rfl
    have x0_1 : (w.alloc (.cells #[.slice a ws.length c, .int .i64 q] 29)).cell? ⟨w.heap.size, 1, none⟩ = some (.int .i64 q) := cell_new _ _ _ (by simp) rfl
    have HB0 := Lib.hid (below_alloc w (.cells #[.slice a ws.length c, .int .i64 q] 29))
    replace x0_0 := cell_old (.cells #[.slice a' zs.length c', .int .i64 q'] 29) x0_0
    replace x0_1 := cell_old (.cells #[.slice a' zs.length c', .int .i64 q'] 29) x0_1
    have x1_0 : ((w.alloc (.cells #[.slice a ws.length c, .int .i64 q] 29)).alloc (.cells #[.slice a' zs.length c', .int .i64 q'] 29)).cell? ⟨w.heap.size + 1, 0, none⟩ = some (.slice a' zs.length c') := cell_new _ _ _ (by simp) rfl
    have x1_1 : ((w.alloc (.cells #[.slice a ws.length c, .int .i64 q] 29)).alloc (.cells #[.slice a' zs.length c', .int .i64 q'] 29)).cell? ⟨w.heap.size + 1, 1, none⟩ = some (.int .i64 q') := cell_new _ _ _ (by simp) rfl
    replace HB0 := Lib.hid (HB0.out.alloc (by simp) (.cells #[.slice a' zs.length c', .int .i64 q'] 29))
    have s0 : w.heap.size + 2 ≤ ((w.alloc (.cells #[.slice a ws.length c, .int .i64 q] 29)).alloc (.cells #[.slice a' zs.length c', .int .i64 q'] 29)).heap.size := by simp
    generalize hw : ((w.alloc (.cells #[.slice a ws.length c, .int .i64 q] 29)).alloc (.cells #[.slice a' zs.length c', .int .i64 q'] 29)) = w0 at *
    clear hw
    have n0_0 : w.heap.size < w0.heap.size := by omega
    have n0_1 : w.heap.size + 1 < w0.heap.size := by omega
    refine (HA1 _ _ _ (Hhr.out.below HB0.out)).mono ?_
    rintro e w1 ⟨vx, rfl, ho, hb⟩
    obtain ⟨px, qx, rfl, _, _, _⟩ := ho.slice
    have s1 : w0.heap.size ≤ w1.heap.size := hb.size
    have n1_0 : w.heap.size < w1.heap.size := by omega
    have n1_1 : w.heap.size + 1 < w1.heap.size := by omega
    replace x0_0 := cell_below hb x0_0 (by omega)
    replace x0_1 := cell_below hb x0_1 (by omega)
    replace x1_0 := cell_below hb x1_0 (by omega)
    replace x1_1 := cell_below hb x1_1 (by omega)
    have HB1 := Lib.hid (HB0.out.trans (hb.mono (by omega)))
    clear hb
    have Hx := Lib.hid ho
    clear ho
    go_wp2_with fail
    refine (HA2 _ _ _ (Hhz.out.below HB1.out)).mono ?_
    rintro e w2 ⟨vy, rfl, ho, hb⟩
    obtain ⟨py, qy, rfl, _, _, _⟩ := ho.slice
    have s2 : w1.heap.size ≤ w2.heap.size := hb.size
    have n2_0 : w.heap.size < w2.heap.size := by omega
    have n2_1 : w.heap.size + 1 < w2.heap.size := by omega
    replace x0_0 := cell_below hb x0_0 (by omega)
    replace x0_1 := cell_below hb x0_1 (by omega)
    replace x1_0 := cell_below hb x1_0 (by omega)
    replace x1_1 := cell_below hb x1_1 (by omega)
    replace Hx := Lib.hid (Hx.out.below hb)
    have HB2 := Lib.hid (HB1.out.trans (hb.mono (by omega)))
    clear hb
    have Hy := Lib.hid ho
    clear ho
    go_wp2_with fail
    go_ret2
    exact ret_empty HB2.out
end Go.Proofs.Ytplhcboecjegjaa.bothi
