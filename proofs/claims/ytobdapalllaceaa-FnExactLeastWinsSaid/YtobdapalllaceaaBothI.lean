/- The walk of BothTable: the program's. -/
import Derived.Test.YtobdapalllaceaaToldV
import Derived.Test.YtobdapalllaceaaSplitP
import Derived.Deep.RegionHeld3
import Derived.Deep.DrawnRows
import Derived.Deep.AppendLies
import Derived.Laws.Rows
import Derived.Test.YtobdapalllaceaaSetCell
namespace Go.Proofs.Ytobdapalllaceaa.bothi
open Go.RowKit own pp nums pv planetable tables splitp
set_option linter.unusedVariables false
attribute [local go_sem ↓] Go.wp_at_zero Go.wp_at_succ
set_option linter.unusedSimpArgs false

theorem cell_keep {W W' : World} (h : Below W.heap.size W W') {b o : Nat} {x : Value} (hx : W.cell? ⟨b, o, none⟩ = some x) : W'.cell? ⟨b, o, none⟩ = some x :=
  cell_below h hx (block_lt_of_cell (a := ⟨b, o, none⟩) hx)
theorem fro_keep {W W' : World} (h : Below W.heap.size W W') {b o o' : Nat} {x : Value} (hx : W.cell? ⟨b, o', none⟩ = some x) (hf : W.frozen? ⟨b, o, none⟩ = false) : W'.frozen? ⟨b, o, none⟩ = false :=
  fro_below h hf (block_lt_of_cell (a := ⟨b, o', none⟩) hx)
theorem cell_grow {W W' : World} {row : Option Nat} (h : W.grownBy W' row) {b o : Nat} {x : Value} (hx : W.cell? ⟨b, o, none⟩ = some x) (hne : ∀ g, row = some g → b ≠ g) : W'.cell? ⟨b, o, none⟩ = some x :=
  (World.cell?_of_block (h.block b (block_lt_of_cell (a := ⟨b, o, none⟩) hx) (fun e => hne b e.symm rfl))).trans hx
theorem fro_grow {W W' : World} {row : Option Nat} (h : W.grownBy W' row) {b o o' : Nat} {x : Value} (hx : W.cell? ⟨b, o', none⟩ = some x) (hf : W.frozen? ⟨b, o, none⟩ = false) (hne : ∀ g, row = some g → b ≠ g) : W'.frozen? ⟨b, o, none⟩ = false :=
  (World.frozen?_of_block (a := ⟨b, o, none⟩) (h.block b (block_lt_of_cell (a := ⟨b, o', none⟩) hx) (fun e => hne b e.symm rfl))).trans hf
theorem own_grow {W W' : World} {row : Option Nat} (h : W.grownBy W' row) {lo hi : Nat} {v : Value} {zs : List Int} (ho : OwnI lo hi W v zs) (hne : ∀ g, row = some g → g < lo ∨ hi ≤ g) : OwnI lo hi W' v zs :=
  ho.block fun g hg => h.block g (ho.lt hg).2.2 (fun e => by have := hne g e.symm; have := ho.lt hg; omega)
theorem cell_set2 {W : World} {b o b' o' : Nat} {x : Value} (hx : W.cell? ⟨b, o, none⟩ = some x) (hne : b ≠ b') (u : Value) : (W.setCell ⟨b', o', none⟩ u).cell? ⟨b, o, none⟩ = some x :=
  (World.cell?_of_block (Below.heap_setCell _ _ _ _ (by show b ≠ b'; exact hne))).trans hx
theorem grown_set (W : World) (b o : Nat) (u : Value) : W.grownBy (W.setCell ⟨b, o, none⟩ u) (some b) :=
  ⟨rfl, rfl, rfl, by rw [size_set]; exact Nat.le_refl _, fun k hk hne => Below.heap_setCell _ _ _ _ (fun e => hne (by rw [e]))⟩
theorem grown_trans {W W1 W2 : World} {row : Option Nat} (h : W.grownBy W1 row) (k : W1.grownBy W2 row) : W.grownBy W2 row :=
  ⟨k.os.trans h.os, k.tape.trans h.tape, k.output.trans h.output, Nat.le_trans h.size k.size, fun i hi hn => (k.block i (Nat.lt_of_lt_of_le hi h.size) hn).trans (h.block i hi hn)⟩
theorem own_narrow {W : World} {lo gg cap : Nat} {l : List Int} {z : Int} (h : W.ownsRow lo 3 1 (.slice (some ⟨gg, 0, none⟩) (l.length + 1) cap) (l.length + 1) (l.map (Value.int .i64) ++ [.int .i64 z])) : OwnI gg (gg + 1) W (.slice (some ⟨gg, 0, none⟩) (l.length + 1) cap) (l ++ [z]) := by
  have h2 : W.ownsRow lo 3 1 (.slice (some ⟨gg, 0, none⟩) (l.length + 1) cap) (l ++ [z]).length ((l ++ [z]).map (Value.int .i64)) := by simpa [List.map_append] using h
  exact ⟨ownsRow_base h2 (fun g e => by obtain rfl : gg = g := (by simpa [Value.ownBlock] using e); exact Nat.le_refl _), fun g e => by obtain rfl : gg = g := (by simpa [Value.ownBlock] using e); omega⟩
theorem own_put {W : World} {lo hi gg n cap : Nat} {l : List Int} (h : OwnI lo hi W (.slice (some ⟨gg, 0, none⟩) n cap) l) (hn : n = l.length) (k : Nat) (z : Int) : OwnI lo hi (W.setCell ⟨gg, k, none⟩ (.int .i64 z)) (.slice (some ⟨gg, 0, none⟩) n cap) (l.set k z) := by
  subst hn
  have := (h.1.stored k (.int .i64 z)).1
  rw [← List.map_set] at this
  exact ⟨by rw [List.length_set]; exact this, h.2⟩
theorem own_cell {W : World} {lo hi gg n cap : Nat} {l : List Int} (h : OwnI lo hi W (.slice (some ⟨gg, 0, none⟩) n cap) l) (hn : n = l.length) (k : Nat) (hk : k < l.length) : W.cell? ⟨gg, k, none⟩ = some (.int .i64 (l.getD k 0)) := by
  subst hn
  rw [h.1.cellAt k (by omega), List.getElem?_map, List.getElem?_eq_getElem hk, List.getD_eq_getElem?_getD, List.getElem?_eq_getElem hk]; rfl
theorem own_fro {W : World} {lo hi gg n cap : Nat} {l : List Int} (h : OwnI lo hi W (.slice (some ⟨gg, 0, none⟩) n cap) l) (hn : n = l.length) (k : Nat) : W.frozen? ⟨gg, k, none⟩ = false := by
  subst hn
  exact h.1.frozenAt k
/-- The products of the first k numbers of two lists. -/
def preTo (xs ys : List Int) (k : Nat) : List Int := (List.range k).map (fun i => xs.getD i 0 * ys.getD i 0)
/-- The first list with its first k numbers multiplied. -/
def mixTo (xs ys : List Int) (k : Nat) : List Int := (List.range xs.length).map (fun i => if i < k then xs.getD i 0 * ys.getD i 0 else xs.getD i 0)
theorem preTo_length (xs ys : List Int) (k : Nat) : (preTo xs ys k).length = k := by simp [preTo]
theorem preTo_succ (xs ys : List Int) (k : Nat) : preTo xs ys (k + 1) = preTo xs ys k ++ [xs.getD k 0 * ys.getD k 0] := by simp [preTo, List.range_succ]
theorem mixTo_length (xs ys : List Int) (k : Nat) : (mixTo xs ys k).length = xs.length := by simp [mixTo]
theorem mixTo_zero (xs ys : List Int) : mixTo xs ys 0 = xs := by
  refine List.ext_getElem (by simp [mixTo]) fun i h1 h2 => ?_
  simp [mixTo, List.getD_eq_getElem?_getD, List.getElem?_eq_getElem h2]
theorem mixTo_all (xs ys : List Int) : mixTo xs ys xs.length = preTo xs ys xs.length :=
  List.map_congr_left fun i hi => by rw [if_pos (List.mem_range.1 hi)]
theorem mixTo_at (xs ys : List Int) (k i : Nat) (h : i < xs.length) : (mixTo xs ys k).getD i 0 = if i < k then xs.getD i 0 * ys.getD i 0 else xs.getD i 0 := by
  rw [List.getD_eq_getElem?_getD]
  simp [mixTo, h]
theorem mixTo_succ (xs ys : List Int) (k : Nat) (h : k < xs.length) : (mixTo xs ys k).set k (xs.getD k 0 * ys.getD k 0) = mixTo xs ys (k + 1) := by
  refine List.ext_getElem (by simp [mixTo]) fun i h1 h2 => ?_
  rw [List.getElem_set]
  by_cases e : k = i
  · subst e; simp [mixTo]
  · rw [if_neg e]
    simp only [mixTo, List.getElem_map, List.getElem_range]
    by_cases e2 : i < k
    · rw [if_pos e2, if_pos (by omega)]
    · rw [if_neg e2, if_neg (by omega)]
theorem pow_inj {m n : Nat} (h : 2 ^ m = 2 ^ n) : m = n := by
  rcases Nat.lt_trichotomy m n with e | e | e
  · have := Nat.pow_lt_pow_right (a := 2) (by omega) e; omega
  · exact e
  · have := Nat.pow_lt_pow_right (a := 2) (by omega) e; omega
theorem tab_len (ws : List Int) (q : Int) : (tab ws q).length = 2 ^ ws.length := by unfold tab; rw [tabTo_length]
theorem tab_bit (ws : List Int) (q : Int) (k : Nat) (h : k < 2 ^ ws.length) : (tab ws q).getD k 0 = 0 ∨ (tab ws q).getD k 0 = 1 := by
  rw [List.getD_eq_getElem?_getD]
  simp only [tab, tabTo, List.getElem?_map, List.getElem?_range h, Option.map_some, Option.getD_some]
  unfold bitAt
  by_cases e : pp.side ws q (bitw.bitsTo k ws.length) = 1
  · rw [if_pos e]; exact .inr rfl
  · rw [if_neg e]; exact .inl rfl
theorem own_block {W : World} {lo hi n cap : Nat} {a : Option Addr} {l : List Int} (h : OwnI lo hi W (.slice a n cap) l) (h0 : 0 < l.length) : ∃ gg, a = some ⟨gg, 0, none⟩ ∧ lo ≤ gg ∧ gg < hi := by
  rcases h.1.2 with ⟨_, e⟩ | ⟨g, cp, cur, e, hb, _⟩
  · omega
  · injection e with e1 e2 e3
    subst e1
    have := h.lt (g := g) rfl
    exact ⟨g, rfl, this.1, this.2.1⟩
end Go.Proofs.Ytobdapalllaceaa.bothi
