/- The walk of MergeVoters: the program's. -/
import Derived.Test.YtcklehfcpengoaaVoter
import Derived.Test.YtcklehfcpengoaaDualV
import Derived.Test.YtcklehfcpengoaaMergeP
import Derived.Test.YtcklehfcpengoaaShelf
import Derived.Deep.RegionHeld3
import Derived.Deep.DrawnRows
import Derived.Deep.AppendLies
import Derived.Laws.Rows
import Derived.Test.YtcklehfcpengoaaSetCell
namespace Go.Proofs.Ytcklehfcpengoaa.mergei
open Go.RowKit own pp nums pv voter dualv mergep
set_option linter.unusedVariables false
attribute [local go_sem ↓] Go.wp_at_zero Go.wp_at_succ
set_option linter.unusedSimpArgs false

theorem cell_keep {W W' : World} (h : Below W.heap.size W W') {b o : Nat} {x : Value} (hx : W.cell? ⟨b, o, none⟩ = some x) : W'.cell? ⟨b, o, none⟩ = some x :=
  cell_below h hx (block_lt_of_cell (a := ⟨b, o, none⟩) hx)
theorem fro_keep {W W' : World} (h : Below W.heap.size W W') {b o o' : Nat} {x : Value} (hx : W.cell? ⟨b, o', none⟩ = some x) (hf : W.frozen? ⟨b, o, none⟩ = false) : W'.frozen? ⟨b, o, none⟩ = false :=
  fro_below h hf (block_lt_of_cell (a := ⟨b, o', none⟩) hx)
theorem cell_grow {W W' : World} {row : Option Nat} (h : W.grownBy W' row) {b o : Nat} {x : Value} (hx : W.cell? ⟨b, o, none⟩ = some x) (hne : ∀ g, row = some g → b ≠ g) : W'.cell? ⟨b, o, none⟩ = some x :=
  (World.cell?_of_block (h.block b (block_lt_of_cell (a := ⟨b, o, none⟩) hx) (fun e => hne b e.symm rfl))).trans hx
theorem fro_grow {W W' : World} {row : Option Nat} (h : W.grownBy W' row) {b o o' : Nat} {x : Value} (hx : W.cell? ⟨b, o', none⟩ = some x) (hf : W.frozen? ⟨b, o, none⟩ = false) (hne : ∀ g, row = some g → b ≠ g) : W'.frozen? ⟨b, o, none⟩ = false :=
  (World.frozen?_of_block (a := ⟨b, o, none⟩) (h.block b (block_lt_of_cell (a := ⟨b, o', none⟩) hx) (fun e => hne b e.symm rfl))).trans hf
theorem own_grow {W W' : World} {row : Option Nat} (h : W.grownBy W' row) {lo hi : Nat} {v : Value} {zs : List Int} (ho : OwnI lo hi W v zs) (hne : ∀ g, row = some g → g < lo ∨ hi ≤ g) : OwnI lo hi W' v zs :=
  ho.block fun g hg => h.block g (ho.lt hg).2.2 (fun e => by have := hne g e.symm; have := ho.lt hg; omega)
theorem cell_set2 {W : World} {b o b' o' : Nat} {x : Value} (hx : W.cell? ⟨b, o, none⟩ = some x) (hne : b ≠ b') (u : Value) : (W.setCell ⟨b', o', none⟩ u).cell? ⟨b, o, none⟩ = some x :=
  (World.cell?_of_block (Below.heap_setCell _ _ _ _ (by show b ≠ b'; exact hne))).trans hx
theorem grown_set (W : World) (b o : Nat) (u : Value) : W.grownBy (W.setCell ⟨b, o, none⟩ u) (some b) :=
  ⟨rfl, rfl, rfl, by rw [size_set]; exact Nat.le_refl _, fun k hk hne => Below.heap_setCell _ _ _ _ (fun e => hne (by rw [e]))⟩
theorem grown_trans {W W1 W2 : World} {row : Option Nat} (h : W.grownBy W1 row) (k : W1.grownBy W2 row) : W.grownBy W2 row :=
  ⟨k.os.trans h.os, k.tape.trans h.tape, k.output.trans h.output, Nat.le_trans h.size k.size, fun i hi hn => (k.block i (Nat.lt_of_lt_of_le hi h.size) hn).trans (h.block i hi hn)⟩
theorem own_narrow {W : World} {lo gg cap : Nat} {l : List Int} {z : Int} (h : W.ownsRow lo 3 1 (.slice (some ⟨gg, 0, none⟩) (l.length + 1) cap) (l.length + 1) (l.map (Value.int .i64) ++ [.int .i64 z])) : OwnI gg (gg + 1) W (.slice (some ⟨gg, 0, none⟩) (l.length + 1) cap) (l ++ [z]) := by
  have h2 : W.ownsRow lo 3 1 (.slice (some ⟨gg, 0, none⟩) (l.length + 1) cap) (l ++ [z]).length ((l ++ [z]).map (Value.int .i64)) := by simpa [List.map_append] using h
  exact ⟨ownsRow_base h2 (fun g e => by obtain rfl : gg = g := (by simpa [Value.ownBlock] using e); exact Nat.le_refl _), fun g e => by obtain rfl : gg = g := (by simpa [Value.ownBlock] using e); omega⟩
theorem own_put {W : World} {lo hi gg n cap : Nat} {l : List Int} (h : OwnI lo hi W (.slice (some ⟨gg, 0, none⟩) n cap) l) (hn : n = l.length) (k : Nat) (z : Int) : OwnI lo hi (W.setCell ⟨gg, k, none⟩ (.int .i64 z)) (.slice (some ⟨gg, 0, none⟩) n cap) (l.set k z) := by
  subst hn
  have := (h.1.stored k (.int .i64 z)).1
  rw [← List.map_set] at this
  exact ⟨by rw [List.length_set]; exact this, h.2⟩
theorem own_cell {W : World} {lo hi gg n cap : Nat} {l : List Int} (h : OwnI lo hi W (.slice (some ⟨gg, 0, none⟩) n cap) l) (hn : n = l.length) (k : Nat) (hk : k < l.length) : W.cell? ⟨gg, k, none⟩ = some (.int .i64 (l.getD k 0)) := by
  subst hn
  rw [h.1.cellAt k (by omega), List.getElem?_map, List.getElem?_eq_getElem hk, List.getD_eq_getElem?_getD, List.getElem?_eq_getElem hk]; rfl
theorem own_fro {W : World} {lo hi gg n cap : Nat} {l : List Int} (h : OwnI lo hi W (.slice (some ⟨gg, 0, none⟩) n cap) l) (hn : n = l.length) (k : Nat) : W.frozen? ⟨gg, k, none⟩ = false := by
  subst hn
  exact h.1.frozenAt k
theorem grown_setCells (g : Nat) : ∀ (vs : List Value) (o : Nat) (W : World), W.grownBy (W.setCells g o vs) (some g)
  | [], _, W => ⟨rfl, rfl, rfl, Nat.le_refl _, fun _ _ _ => rfl⟩
  | v :: r, o, W => grown_trans (grown_set W g o v) (grown_setCells g r (o + 1) _)
/-- The values vs written over l, from o on. -/
def over (l : List Int) : Nat → List Int → List Int
  | _, [] => l
  | o, v :: r => over (l.set o v) (o + 1) r
theorem over_length : ∀ (vs : List Int) (o : Nat) (l : List Int), (over l o vs).length = l.length
  | [], _, _ => rfl
  | v :: r, o, l => by rw [over, over_length r]; simp
theorem over_eq : ∀ (vs : List Int) (o : Nat) (l : List Int), l.length = o + vs.length → over l o vs = l.take o ++ vs
  | [], o, l, h => by rw [over, List.take_of_length_le (by simpa using Nat.le_of_eq h)]; simp
  | v :: r, o, l, h => by
    rw [over, over_eq r (o + 1) _ (by simp at h ⊢; omega), List.take_add_one, List.getElem?_set_self (by simp at h; omega), List.take_set, List.set_eq_of_length_le (by simp; omega)]
    simp
theorem own_setCells {lo hi gg n cap : Nat} : ∀ (vs : List Int) (o : Nat) (W : World) (l : List Int), OwnI lo hi W (.slice (some ⟨gg, 0, none⟩) n cap) l → n = l.length → OwnI lo hi (W.setCells gg o (vs.map (Value.int .i64))) (.slice (some ⟨gg, 0, none⟩) n cap) (over l o vs)
  | [], _, _, _, h, _ => h
  | v :: r, o, W, l, h, hn => own_setCells r (o + 1) _ (l.set o v) (own_put h hn o v) (by simpa using hn)
theorem own_cut {W : World} {lo hi gg n m cap : Nat} {l : List Int} (h : OwnI lo hi W (.slice (some ⟨gg, 0, none⟩) n cap) l) (hn : n = l.length) (hm : m ≤ n) : OwnI lo hi W (.slice (some ⟨gg, 0, none⟩) m cap) (l.take m) := by
  subst hn
  refine ⟨?_, fun g e => h.2 g (by obtain rfl : gg = g := (by simpa [Value.ownBlock] using e); rfl)⟩
  have hl : (l.take m).length = m := by simp; omega
  rw [hl]
  rcases h.1.2 with ⟨h', _⟩ | ⟨g, cp, cur, h', hb, hg, hnc, hcm, hcs, ht⟩
  · simp at h'
  · injection h' with e1 e2 e3
    injection e1 with e1
    injection e1 with e4
    subst e4 e3
    refine ⟨by simp; omega, .inr ⟨gg, cap, cur, rfl, hb, hg, by omega, hcm, hcs, ?_⟩⟩
    have h2 := congrArg (List.take (m * 1)) ht
    rw [List.take_take, Nat.min_eq_left (by omega)] at h2
    rw [h2, Nat.mul_one, List.map_take]
theorem own_cap {W : World} {lo hi gg n cap : Nat} {l : List Int} (h : OwnI lo hi W (.slice (some ⟨gg, 0, none⟩) n cap) l) (hn : n = l.length) : n ≤ cap ∧ cap ≤ maxLen := by
  subst hn
  rcases h.1.2 with ⟨h', _⟩ | ⟨g, cp, cur, h', hb, hg, hnc, hcm, hcs, ht⟩
  · simp at h'
  · injection h' with e1 e2 e3
    subst e3
    exact ⟨hnc, hcm⟩
theorem del_own {lo hi gg n cap kj : Nat} {W : World} {l : List Int} (h : OwnI lo hi W (.slice (some ⟨gg, 0, none⟩) n cap) l) (hn : n = l.length) (hk : kj < n) :
    Calls Try.prog 63 #[.slice (some ⟨gg, 0, none⟩) n cap, .int .i64 kj, .int .i64 ((kj : Int) + 1)] W (fun e w' => e = .returned (.slice (some ⟨gg, 0, none⟩) (n - 1) cap) ∧ OwnI lo hi w' (.slice (some ⟨gg, 0, none⟩) (n - 1) cap) (l.take kj ++ l.drop (kj + 1)) ∧ ∃ W1, Below W.heap.size W W1 ∧ W1.grownBy w' (some gg)) := by
  have hcap := own_cap h hn
  have HC := Try.slices_Delete_int_cells gg 0 n cap kj (kj + 1) l W (by omega) hcap.1 (by have := hcap.2; unfold maxLen at this; omega) (by omega) (by omega) (fun j hj => by rw [Nat.zero_add]; exact own_cell h hn j hj) (fun j hj => by rw [Nat.zero_add]; exact own_fro h hn j)
  rw [show ((kj + 1 : Nat) : Int) = (kj : Int) + 1 from rfl] at HC
  refine HC.mono ?_
  rintro e w' ⟨rfl, m, rfl⟩
  have hb := ints.below_drewN (Below.refl W.heap.size W) m
  have e1 : n - (kj + 1 - kj) = n - 1 := by omega
  have e2 : List.replicate (kj + 1 - kj) (0 : Int) = [0] := by rw [show kj + 1 - kj = 1 from by omega]; rfl
  have e3 : l.take n = l := List.take_of_length_le (by omega)
  rw [e1, e2, e3]
  refine ⟨rfl, ?_, _, hb, grown_setCells _ _ _ _⟩
  have h1 := own_setCells (l.take kj ++ l.drop (kj + 1) ++ [0]) 0 (W.drewN m) l (h.below hb) hn
  rw [over_eq _ _ _ (by simp; omega), List.take_zero, List.nil_append] at h1
  have h2 := own_cut (m := n - 1) h1 (by simp; omega) (by omega)
  have e5 : (l.take kj ++ l.drop (kj + 1) ++ [0]).take (n - 1) = l.take kj ++ l.drop (kj + 1) := by
    rw [List.take_append_of_le_length (by simp; omega)]
    exact List.take_of_length_le (by simp; omega)
  rw [e5] at h2
  exact h2
theorem own_block {W : World} {lo hi n cap : Nat} {a : Option Addr} {l : List Int} (h : OwnI lo hi W (.slice a n cap) l) (h0 : 0 < l.length) : ∃ gg, a = some ⟨gg, 0, none⟩ ∧ lo ≤ gg ∧ gg < hi := by
  rcases h.1.2 with ⟨_, e⟩ | ⟨g, cp, cur, e, hb, _⟩
  · omega
  · injection e with e1 e2 e3
    subst e1
    have := h.lt (g := g) rfl
    exact ⟨g, rfl, this.1, this.2.1⟩
set_option maxRecDepth 100000 in
set_option maxHeartbeats 4000000 in
theorem impl_no1 (a : Option Addr) (ws : List Int) (c : Nat) (q : Int) (w : World) (hr : ints.Reads .i64 w a ws) (hn : ws.length ≤ 1048576) (i j : Int) (h : Hid (voterB ws q i = false)) :
    Calls Try.prog 31 #[.agg #[.slice a ws.length c, .int .i64 q], .int .i64 i, .int .i64 j] w (RetPB [] 0 false w) := by
  have Hhr := Lib.hid hr
  clear hr
  go_enter Try.func31, Try.ntmps31
  go_wp2_with fail
  have x0_0 : (w.alloc (.cells #[.slice a ws.length c, .int .i64 q] 27)).cell? ⟨w.heap.size, 0, none⟩ = some (.slice a ws.length c) := cell_new _ _ _ (by simp) rfl
  have x0_1 : (w.alloc (.cells #[.slice a ws.length c, .int .i64 q] 27)).cell? ⟨w.heap.size, 1, none⟩ = some (.int .i64 q) := cell_new _ _ _ (by simp) rfl
  have HB0 := Lib.hid (below_alloc w (.cells #[.slice a ws.length c, .int .i64 q] 27))
  replace x0_0 := cell_old (.cells #[.slice none 0 0, .int .i64 0] 27) x0_0
  replace x0_1 := cell_old (.cells #[.slice none 0 0, .int .i64 0] 27) x0_1
  have x1_0 : ((w.alloc (.cells #[.slice a ws.length c, .int .i64 q] 27)).alloc (.cells #[.slice none 0 0, .int .i64 0] 27)).cell? ⟨w.heap.size + 1, 0, none⟩ = some (.slice none 0 0) := cell_new _ _ _ (by simp) rfl
  have x1_1 : ((w.alloc (.cells #[.slice a ws.length c, .int .i64 q] 27)).alloc (.cells #[.slice none 0 0, .int .i64 0] 27)).cell? ⟨w.heap.size + 1, 1, none⟩ = some (.int .i64 0) := cell_new _ _ _ (by simp) rfl
  have f1_0 : ((w.alloc (.cells #[.slice a ws.length c, .int .i64 q] 27)).alloc (.cells #[.slice none 0 0, .int .i64 0] 27)).frozen? ⟨w.heap.size + 1, 0, none⟩ = false := fro_new _ _ _ (by simp)
  have f1_1 : ((w.alloc (.cells #[.slice a ws.length c, .int .i64 q] 27)).alloc (.cells #[.slice none 0 0, .int .i64 0] 27)).frozen? ⟨w.heap.size + 1, 1, none⟩ = false := fro_new _ _ _ (by simp)
  replace HB0 := Lib.hid (HB0.out.alloc (by simp) (.cells #[.slice none 0 0, .int .i64 0] 27))
  have s0 : w.heap.size + 2 ≤ ((w.alloc (.cells #[.slice a ws.length c, .int .i64 q] 27)).alloc (.cells #[.slice none 0 0, .int .i64 0] 27)).heap.size := by simp
  generalize hw : ((w.alloc (.cells #[.slice a ws.length c, .int .i64 q] 27)).alloc (.cells #[.slice none 0 0, .int .i64 0] 27)) = w0 at *
  clear hw
  have n0_0 : w.heap.size < w0.heap.size := by omega
  have n0_1 : w.heap.size + 1 < w0.heap.size := by omega
  refine (impl_voter a ws c q _ (Hhr.out.below HB0.out) hn i false h).mono ?_
  rintro e w1 ⟨rfl, hb⟩
  have s1 : w0.heap.size ≤ w1.heap.size := hb.size
  have n1_0 : w.heap.size < w1.heap.size := by omega
  have n1_1 : w.heap.size + 1 < w1.heap.size := by omega
  replace x0_0 := cell_below hb x0_0 (by omega)
  replace x0_1 := cell_below hb x0_1 (by omega)
  replace x1_0 := cell_below hb x1_0 (by omega)
  replace x1_1 := cell_below hb x1_1 (by omega)
  replace f1_0 := fro_below hb f1_0 (by omega)
  replace f1_1 := fro_below hb f1_1 (by omega)
  have HB1 := Lib.hid (HB0.out.trans (hb.mono (by omega)))
  clear hb
  go_wp2_with fail
  refine bodyPost_ret (v := .tuple #[.agg #[.slice none 0 0, .int .i64 0], .bool false]) (by simp [results, Try.results31, go_sem, x1_0, x1_1]) rfl ⟨_, rfl, OwnI.nil _ _ _, ?_⟩
  exact ((HB1.out.setCell (by simp) _).setCell (by simp) _)
set_option maxRecDepth 100000 in
set_option maxHeartbeats 4000000 in
theorem impl_no2 (a : Option Addr) (ws : List Int) (c : Nat) (q : Int) (w : World) (hr : ints.Reads .i64 w a ws) (hn : ws.length ≤ 1048576) (i j : Int) (h : Hid (voterB ws q i = true)) (h2 : Hid (voterB ws q j = false)) :
    Calls Try.prog 31 #[.agg #[.slice a ws.length c, .int .i64 q], .int .i64 i, .int .i64 j] w (RetPB [] 0 false w) := by
  have Hhr := Lib.hid hr
  clear hr
  go_enter Try.func31, Try.ntmps31
  go_wp2_with fail
  have x0_0 : (w.alloc (.cells #[.slice a ws.length c, .int .i64 q] 27)).cell? ⟨w.heap.size, 0, none⟩ = some (.slice a ws.length c) := cell_new _ _ _ (by simp) rfl
  have x0_1 : (w.alloc (.cells #[.slice a ws.length c, .int .i64 q] 27)).cell? ⟨w.heap.size, 1, none⟩ = some (.int .i64 q) := cell_new _ _ _ (by simp) rfl
  have HB0 := Lib.hid (below_alloc w (.cells #[.slice a ws.length c, .int .i64 q] 27))
  replace x0_0 := cell_old (.cells #[.slice none 0 0, .int .i64 0] 27) x0_0
  replace x0_1 := cell_old (.cells #[.slice none 0 0, .int .i64 0] 27) x0_1
  have x1_0 : ((w.alloc (.cells #[.slice a ws.length c, .int .i64 q] 27)).alloc (.cells #[.slice none 0 0, .int .i64 0] 27)).cell? ⟨w.heap.size + 1, 0, none⟩ = some (.slice none 0 0) := cell_new _ _ _ (by simp) rfl
  have x1_1 : ((w.alloc (.cells #[.slice a ws.length c, .int .i64 q] 27)).alloc (.cells #[.slice none 0 0, .int .i64 0] 27)).cell? ⟨w.heap.size + 1, 1, none⟩ = some (.int .i64 0) := cell_new _ _ _ (by simp) rfl
  have f1_0 : ((w.alloc (.cells #[.slice a ws.length c, .int .i64 q] 27)).alloc (.cells #[.slice none 0 0, .int .i64 0] 27)).frozen? ⟨w.heap.size + 1, 0, none⟩ = false := fro_new _ _ _ (by simp)
  have f1_1 : ((w.alloc (.cells #[.slice a ws.length c, .int .i64 q] 27)).alloc (.cells #[.slice none 0 0, .int .i64 0] 27)).frozen? ⟨w.heap.size + 1, 1, none⟩ = false := fro_new _ _ _ (by simp)
  replace HB0 := Lib.hid (HB0.out.alloc (by simp) (.cells #[.slice none 0 0, .int .i64 0] 27))
  have s0 : w.heap.size + 2 ≤ ((w.alloc (.cells #[.slice a ws.length c, .int .i64 q] 27)).alloc (.cells #[.slice none 0 0, .int .i64 0] 27)).heap.size := by simp
  generalize hw : ((w.alloc (.cells #[.slice a ws.length c, .int .i64 q] 27)).alloc (.cells #[.slice none 0 0, .int .i64 0] 27)) = w0 at *
  clear hw
  have n0_0 : w.heap.size < w0.heap.size := by omega
  have n0_1 : w.heap.size + 1 < w0.heap.size := by omega
  refine (impl_voter a ws c q _ (Hhr.out.below HB0.out) hn i true h).mono ?_
  rintro e w1 ⟨rfl, hb⟩
  have s1 : w0.heap.size ≤ w1.heap.size := hb.size
  have n1_0 : w.heap.size < w1.heap.size := by omega
  have n1_1 : w.heap.size + 1 < w1.heap.size := by omega
  replace x0_0 := cell_below hb x0_0 (by omega)
  replace x0_1 := cell_below hb x0_1 (by omega)
  replace x1_0 := cell_below hb x1_0 (by omega)
  replace x1_1 := cell_below hb x1_1 (by omega)
  replace f1_0 := fro_below hb f1_0 (by omega)
  replace f1_1 := fro_below hb f1_1 (by omega)
  have HB1 := Lib.hid (HB0.out.trans (hb.mono (by omega)))
  clear hb
  go_wp2_with fail
  refine (impl_voter a ws c q _ (Hhr.out.below HB1.out) hn j false h2).mono ?_
  rintro e w2 ⟨rfl, hb⟩
  have s2 : w1.heap.size ≤ w2.heap.size := hb.size
  have n2_0 : w.heap.size < w2.heap.size := by omega
  have n2_1 : w.heap.size + 1 < w2.heap.size := by omega
  replace x0_0 := cell_below hb x0_0 (by omega)
  replace x0_1 := cell_below hb x0_1 (by omega)
  replace x1_0 := cell_below hb x1_0 (by omega)
  replace x1_1 := cell_below hb x1_1 (by omega)
  replace f1_0 := fro_below hb f1_0 (by omega)
  replace f1_1 := fro_below hb f1_1 (by omega)
  have HB2 := Lib.hid (HB1.out.trans (hb.mono (by omega)))
  clear hb
  go_wp2_with fail
  refine bodyPost_ret (v := .tuple #[.agg #[.slice none 0 0, .int .i64 0], .bool false]) (by simp [results, Try.results31, go_sem, x1_0, x1_1]) rfl ⟨_, rfl, OwnI.nil _ _ _, ?_⟩
  exact ((HB2.out.setCell (by simp) _).setCell (by simp) _)
set_option maxRecDepth 100000 in
set_option maxHeartbeats 4000000 in
theorem impl_no3 (a : Option Addr) (ws : List Int) (c : Nat) (q : Int) (w : World) (hr : ints.Reads .i64 w a ws) (hn : ws.length ≤ 1048576) (i : Int) (h : Hid (voterB ws q i = true)) :
    Calls Try.prog 31 #[.agg #[.slice a ws.length c, .int .i64 q], .int .i64 i, .int .i64 i] w (RetPB [] 0 false w) := by
  have Hhr := Lib.hid hr
  clear hr
  go_enter Try.func31, Try.ntmps31
  go_wp2_with fail
  have x0_0 : (w.alloc (.cells #[.slice a ws.length c, .int .i64 q] 27)).cell? ⟨w.heap.size, 0, none⟩ = some (.slice a ws.length c) := cell_new _ _ _ (by simp) rfl
  have x0_1 : (w.alloc (.cells #[.slice a ws.length c, .int .i64 q] 27)).cell? ⟨w.heap.size, 1, none⟩ = some (.int .i64 q) := cell_new _ _ _ (by simp) rfl
  have HB0 := Lib.hid (below_alloc w (.cells #[.slice a ws.length c, .int .i64 q] 27))
  replace x0_0 := cell_old (.cells #[.slice none 0 0, .int .i64 0] 27) x0_0
  replace x0_1 := cell_old (.cells #[.slice none 0 0, .int .i64 0] 27) x0_1
  have x1_0 : ((w.alloc (.cells #[.slice a ws.length c, .int .i64 q] 27)).alloc (.cells #[.slice none 0 0, .int .i64 0] 27)).cell? ⟨w.heap.size + 1, 0, none⟩ = some (.slice none 0 0) := cell_new _ _ _ (by simp) rfl
  have x1_1 : ((w.alloc (.cells #[.slice a ws.length c, .int .i64 q] 27)).alloc (.cells #[.slice none 0 0, .int .i64 0] 27)).cell? ⟨w.heap.size + 1, 1, none⟩ = some (.int .i64 0) := cell_new _ _ _ (by simp) rfl
  have f1_0 : ((w.alloc (.cells #[.slice a ws.length c, .int .i64 q] 27)).alloc (.cells #[.slice none 0 0, .int .i64 0] 27)).frozen? ⟨w.heap.size + 1, 0, none⟩ = false := fro_new _ _ _ (by simp)
  have f1_1 : ((w.alloc (.cells #[.slice a ws.length c, .int .i64 q] 27)).alloc (.cells #[.slice none 0 0, .int .i64 0] 27)).frozen? ⟨w.heap.size + 1, 1, none⟩ = false := fro_new _ _ _ (by simp)
  replace HB0 := Lib.hid (HB0.out.alloc (by simp) (.cells #[.slice none 0 0, .int .i64 0] 27))
  have s0 : w.heap.size + 2 ≤ ((w.alloc (.cells #[.slice a ws.length c, .int .i64 q] 27)).alloc (.cells #[.slice none 0 0, .int .i64 0] 27)).heap.size := by simp
  generalize hw : ((w.alloc (.cells #[.slice a ws.length c, .int .i64 q] 27)).alloc (.cells #[.slice none 0 0, .int .i64 0] 27)) = w0 at *
  clear hw
  have n0_0 : w.heap.size < w0.heap.size := by omega
  have n0_1 : w.heap.size + 1 < w0.heap.size := by omega
  refine (impl_voter a ws c q _ (Hhr.out.below HB0.out) hn i true h).mono ?_
  rintro e w1 ⟨rfl, hb⟩
  have s1 : w0.heap.size ≤ w1.heap.size := hb.size
  have n1_0 : w.heap.size < w1.heap.size := by omega
  have n1_1 : w.heap.size + 1 < w1.heap.size := by omega
  replace x0_0 := cell_below hb x0_0 (by omega)
  replace x0_1 := cell_below hb x0_1 (by omega)
  replace x1_0 := cell_below hb x1_0 (by omega)
  replace x1_1 := cell_below hb x1_1 (by omega)
  replace f1_0 := fro_below hb f1_0 (by omega)
  replace f1_1 := fro_below hb f1_1 (by omega)
  have HB1 := Lib.hid (HB0.out.trans (hb.mono (by omega)))
  clear hb
  go_wp2_with fail
  refine (impl_voter a ws c q _ (Hhr.out.below HB1.out) hn i true h).mono ?_
  rintro e w2 ⟨rfl, hb⟩
  have s2 : w1.heap.size ≤ w2.heap.size := hb.size
  have n2_0 : w.heap.size < w2.heap.size := by omega
  have n2_1 : w.heap.size + 1 < w2.heap.size := by omega
  replace x0_0 := cell_below hb x0_0 (by omega)
  replace x0_1 := cell_below hb x0_1 (by omega)
  replace x1_0 := cell_below hb x1_0 (by omega)
  replace x1_1 := cell_below hb x1_1 (by omega)
  replace f1_0 := fro_below hb f1_0 (by omega)
  replace f1_1 := fro_below hb f1_1 (by omega)
  have HB2 := Lib.hid (HB1.out.trans (hb.mono (by omega)))
  clear hb
  go_wp2_with fail
  refine bodyPost_ret (v := .tuple #[.agg #[.slice none 0 0, .int .i64 0], .bool false]) (by simp [results, Try.results31, go_sem, x1_0, x1_1]) rfl ⟨_, rfl, OwnI.nil _ _ _, ?_⟩
  exact ((HB2.out.setCell (by simp) _).setCell (by simp) _)
set_option maxRecDepth 100000 in
set_option maxHeartbeats 4000000 in
theorem impl_yes (a : Option Addr) (ws : List Int) (c : Nat) (q : Int) (w : World) (hr : ints.Reads .i64 w a ws) (hn : ws.length ≤ 1048576) (i j : Int) (h : Hid (voterB ws q i = true)) (h2 : Hid (voterB ws q j = true)) (hne : i ≠ j) (hkept : voteB (mergeTo ws i.toNat j.toNat ws.length) q = true) :
    Calls Try.prog 31 #[.agg #[.slice a ws.length c, .int .i64 q], .int .i64 i, .int .i64 j] w (RetPB (mergeTo ws i.toNat j.toNat ws.length) q true w) := by
  obtain ⟨hv, hi0, hi1⟩ := (voter_iff _ _ _).1 h.out
  obtain ⟨_, hj0, hj1⟩ := (voter_iff _ _ _).1 h2.out
  have h18 := ((vote_iff _ _).1 hv).1
  obtain ⟨ki, rfl⟩ : ∃ k : Nat, i = k := ⟨i.toNat, by omega⟩
  obtain ⟨kj, rfl⟩ : ∃ k : Nat, j = k := ⟨j.toNat, by omega⟩
  rw [Int.toNat_natCast, Int.toNat_natCast] at hkept
  have hki : ki < ws.length := by omega
  have hkj : kj < ws.length := by omega
  have hkk : ¬ ((ki : Int) = (kj : Int)) := hne
  have HKEPT := Lib.hid hkept
  have HVA := Lib.hid (vote_at hv)
  clear hv hi0 hi1 hj0 hj1 hkept hne
  rw [Int.toNat_natCast, Int.toNat_natCast]
  have Hhr := Lib.hid hr
  clear hr
  go_enter Try.func31, Try.ntmps31
  go_wp2_with fail
  have x0_0 : (w.alloc (.cells #[.slice a ws.length c, .int .i64 q] 27)).cell? ⟨w.heap.size, 0, none⟩ = some (.slice a ws.length c) := cell_new _ _ _ (by simp) rfl
  have x0_1 : (w.alloc (.cells #[.slice a ws.length c, .int .i64 q] 27)).cell? ⟨w.heap.size, 1, none⟩ = some (.int .i64 q) := cell_new _ _ _ (by simp) rfl
  have HB0 := Lib.hid (below_alloc w (.cells #[.slice a ws.length c, .int .i64 q] 27))
  replace x0_0 := cell_old (.cells #[.slice none 0 0, .int .i64 0] 27) x0_0
  replace x0_1 := cell_old (.cells #[.slice none 0 0, .int .i64 0] 27) x0_1
  have x1_0 : ((w.alloc (.cells #[.slice a ws.length c, .int .i64 q] 27)).alloc (.cells #[.slice none 0 0, .int .i64 0] 27)).cell? ⟨w.heap.size + 1, 0, none⟩ = some (.slice none 0 0) := cell_new _ _ _ (by simp) rfl
  have x1_1 : ((w.alloc (.cells #[.slice a ws.length c, .int .i64 q] 27)).alloc (.cells #[.slice none 0 0, .int .i64 0] 27)).cell? ⟨w.heap.size + 1, 1, none⟩ = some (.int .i64 0) := cell_new _ _ _ (by simp) rfl
  have f1_0 : ((w.alloc (.cells #[.slice a ws.length c, .int .i64 q] 27)).alloc (.cells #[.slice none 0 0, .int .i64 0] 27)).frozen? ⟨w.heap.size + 1, 0, none⟩ = false := fro_new _ _ _ (by simp)
  have f1_1 : ((w.alloc (.cells #[.slice a ws.length c, .int .i64 q] 27)).alloc (.cells #[.slice none 0 0, .int .i64 0] 27)).frozen? ⟨w.heap.size + 1, 1, none⟩ = false := fro_new _ _ _ (by simp)
  replace HB0 := Lib.hid (HB0.out.alloc (by simp) (.cells #[.slice none 0 0, .int .i64 0] 27))
  have s0 : w.heap.size + 2 ≤ ((w.alloc (.cells #[.slice a ws.length c, .int .i64 q] 27)).alloc (.cells #[.slice none 0 0, .int .i64 0] 27)).heap.size := by simp
  generalize hw : ((w.alloc (.cells #[.slice a ws.length c, .int .i64 q] 27)).alloc (.cells #[.slice none 0 0, .int .i64 0] 27)) = w0 at *
  clear hw
  have n0_0 : w.heap.size < w0.heap.size := by omega
  have n0_1 : w.heap.size + 1 < w0.heap.size := by omega
  refine (impl_voter a ws c q _ (Hhr.out.below HB0.out) hn ki true h).mono ?_
  rintro e w1 ⟨rfl, hb⟩
  have s1 : w0.heap.size ≤ w1.heap.size := hb.size
  have n1_0 : w.heap.size < w1.heap.size := by omega
  have n1_1 : w.heap.size + 1 < w1.heap.size := by omega
  replace x0_0 := cell_below hb x0_0 (by omega)
  replace x0_1 := cell_below hb x0_1 (by omega)
  replace x1_0 := cell_below hb x1_0 (by omega)
  replace x1_1 := cell_below hb x1_1 (by omega)
  replace f1_0 := fro_below hb f1_0 (by omega)
  replace f1_1 := fro_below hb f1_1 (by omega)
  have HB1 := Lib.hid (HB0.out.trans (hb.mono (by omega)))
  clear hb
  go_wp2_with fail
  refine (impl_voter a ws c q _ (Hhr.out.below HB1.out) hn kj true h2).mono ?_
  rintro e w2 ⟨rfl, hb⟩
  have s2 : w1.heap.size ≤ w2.heap.size := hb.size
  have n2_0 : w.heap.size < w2.heap.size := by omega
  have n2_1 : w.heap.size + 1 < w2.heap.size := by omega
  replace x0_0 := cell_below hb x0_0 (by omega)
  replace x0_1 := cell_below hb x0_1 (by omega)
  replace x1_0 := cell_below hb x1_0 (by omega)
  replace x1_1 := cell_below hb x1_1 (by omega)
  replace f1_0 := fro_below hb f1_0 (by omega)
  replace f1_1 := fro_below hb f1_1 (by omega)
  have HB2 := Lib.hid (HB1.out.trans (hb.mono (by omega)))
  clear hb
  go_wp2_with fail
  refine (clone_own a ws c _ (Hhr.out.below HB2.out) hn (by omega)).mono ?_
  rintro e w3 ⟨v, rfl, ho, hb⟩
  obtain ⟨p1, q1, rfl, _, _, _⟩ := ho.slice
  have s3 : w2.heap.size ≤ w3.heap.size := hb.size
  have n3_0 : w.heap.size < w3.heap.size := by omega
  have n3_1 : w.heap.size + 1 < w3.heap.size := by omega
  replace x0_0 := cell_below hb x0_0 (by omega)
  replace x0_1 := cell_below hb x0_1 (by omega)
  replace x1_0 := cell_below hb x1_0 (by omega)
  replace x1_1 := cell_below hb x1_1 (by omega)
  replace f1_0 := fro_below hb f1_0 (by omega)
  replace f1_1 := fro_below hb f1_1 (by omega)
  have HB3 := Lib.hid (HB2.out.trans (hb.mono (by omega)))
  clear hb
  have HO := Lib.hid ho
  clear ho
  obtain ⟨gg, hq1, hq2, hq3⟩ := own_block HO.out (by omega)
  subst hq1
  have hci := own_cell HO.out rfl ki hki
  have hcj := own_cell HO.out rfl kj hkj
  have hfi := own_fro HO.out rfl ki
  have i1 : (0 : Int) ≤ (ki : Int) := by omega
  have i2 : (ki : Int) < (ws.length : Int) := by omega
  have i3 : (0 : Int) ≤ (kj : Int) := by omega
  have i4 : (kj : Int) < (ws.length : Int) := by omega
  have e1 : IntKind.i64.wrap (ws.getD ki 0 + ws.getD kj 0) = ws.getD ki 0 + ws.getD kj 0 := by (have b1 := HVA.out ki hki; have b2 := HVA.out kj hkj; exact IntWalk.i64_in _ (by omega))
  have e2 : IntKind.i64.wrap ((kj : Int) + 1) = (kj : Int) + 1 := IntWalk.i64_in _ (by omega)
  have hma := merge_all ws ki kj hki hkj
  have hml := merge_length ws ki kj hki hkj
  generalize mergeTo ws ki kj ws.length = ms at *
  generalize ws.getD ki 0 = x at *
  generalize ws.getD kj 0 = y at *
  have HMA := Lib.hid hma
  clear hma
  go_wp2_with fail
  have x1_f0 := f1_0
  clear f1_0
  have x1_f1 := f1_1
  clear f1_1
  have hown : OwnI w2.heap.size w3.heap.size w3 (.slice (some ⟨gg, 0, none⟩) ws.length q1) ws := HO.out
  replace HO := Lib.hid hown
  clear hown
  refine wp_region_any (by kernel_rfl) ?_
  try (change wpAny _ _ _ _ _ _ _ (World.drew _))
  refine wpAny_take (i := 0) (v := ?_) rfl (by kernel_rfl) (by kernel_rfl) (by kernel_rfl) (fun _ _ _ h => h) (Or.inl ⟨by rfl, ?_⟩) ?_
  rotate_left
  · intro w; go_simp; try with_reducible rfl
  try simp only [List.getElem_toArray, List.getElem_cons_succ, List.getElem_cons_zero, Act.put, List.setIfInBounds_toArray, List.set_cons_zero, List.set_cons_succ]
  refine wpAny_take (i := 1) (v := ?_) rfl (by kernel_rfl) (by kernel_rfl) (by kernel_rfl) (fun _ _ _ h => h) (Or.inl ⟨by rfl, ?_⟩) ?_
  rotate_left
  · intro w; go_simp; try with_reducible rfl
  try simp only [List.getElem_toArray, List.getElem_cons_succ, List.getElem_cons_zero, Act.put, List.setIfInBounds_toArray, List.set_cons_zero, List.set_cons_succ]
  refine wpAny_take (i := 2) (v := ?_) rfl (by kernel_rfl) (by kernel_rfl) (by kernel_rfl) (fun _ _ _ h => h) (Or.inl ⟨by rfl, ?_⟩) ?_
  rotate_left
  · intro w; go_simp; try with_reducible rfl
  try simp only [List.getElem_toArray, List.getElem_cons_succ, List.getElem_cons_zero, Act.put, List.setIfInBounds_toArray, List.set_cons_zero, List.set_cons_succ]
  refine wpAny_take (i := 4) (v := ?_) rfl (by kernel_rfl) (by kernel_rfl) (by kernel_rfl) (fun _ _ _ h => h) (Or.inl ⟨by rfl, ?_⟩) ?_
  rotate_left
  · intro w; go_simp; try with_reducible rfl
  try simp only [List.getElem_toArray, List.getElem_cons_succ, List.getElem_cons_zero, Act.put, List.setIfInBounds_toArray, List.set_cons_zero, List.set_cons_succ]
  refine wpAny_take (i := 5) (v := ?_) rfl (by kernel_rfl) (by kernel_rfl) (by kernel_rfl) (fun _ _ _ h => h) (Or.inl ⟨by rfl, ?_⟩) ?_
  rotate_left
  · intro w; go_simp; try with_reducible rfl
  try simp only [List.getElem_toArray, List.getElem_cons_succ, List.getElem_cons_zero, Act.put, List.setIfInBounds_toArray, List.set_cons_zero, List.set_cons_succ]
  refine wpAny_take (i := 6) (v := ?_) rfl (by kernel_rfl) (by kernel_rfl) (by kernel_rfl) (fun _ _ _ h => h) (Or.inl ⟨by rfl, ?_⟩) ?_
  rotate_left
  · intro w; go_simp; try with_reducible rfl
  try simp only [List.getElem_toArray, List.getElem_cons_succ, List.getElem_cons_zero, Act.put, List.setIfInBounds_toArray, List.set_cons_zero, List.set_cons_succ]
  refine wpAny_ready (rs := [3, 7]) (by kernel_rfl) (by simp) ?_
  refine AllReady.cons rfl (fun K hK => ?_) ?_
  · skip
    go_simp
    refine hK _ _ ?_
    clear hK K
    try simp only [List.getElem_toArray, List.getElem_cons_succ, List.getElem_cons_zero, Act.put, List.setIfInBounds_toArray, List.set_cons_zero, List.set_cons_succ]
    refine wpAny_ready (rs := [7]) (by kernel_rfl) (by simp) ?_
    refine AllReady.cons rfl (fun K hK => ?_) AllReady.nil
    go_simp
    refine hK _ _ ?_
    clear hK K
    try simp only [List.getElem_toArray, List.getElem_cons_succ, List.getElem_cons_zero, Act.put, List.setIfInBounds_toArray, List.set_cons_zero, List.set_cons_succ]
    refine wpAny_take (i := 8) (v := ?_) rfl (by kernel_rfl) (by kernel_rfl) (by kernel_rfl) (fun _ _ _ h => h) (Or.inl ⟨by rfl, ?_⟩) ?_
    rotate_left
    · intro w; go_simp; try with_reducible rfl
    try simp only [List.getElem_toArray, List.getElem_cons_succ, List.getElem_cons_zero, Act.put, List.setIfInBounds_toArray, List.set_cons_zero, List.set_cons_succ]
    refine wpAny_take (i := 9) (v := ?_) rfl (by kernel_rfl) (by kernel_rfl) (by kernel_rfl) (fun _ _ _ h => h) (Or.inl ⟨by rfl, ?_⟩) ?_
    rotate_left
    · intro w; go_simp; try with_reducible rfl
    try simp only [List.getElem_toArray, List.getElem_cons_succ, List.getElem_cons_zero, Act.put, List.setIfInBounds_toArray, List.set_cons_zero, List.set_cons_succ]
    refine wpAny_ready (rs := [10]) (by kernel_rfl) (by simp) ?_
    refine AllReady.cons rfl (fun K hK => ?_) AllReady.nil
    go_simp
    refine hK _ _ ?_
    clear hK K
    try simp only [List.getElem_toArray, List.getElem_cons_succ, List.getElem_cons_zero, Act.put, List.setIfInBounds_toArray, List.set_cons_zero, List.set_cons_succ]
    refine wpAny_done (by kernel_rfl) ?_ _
    go_wp2_with fail
    have HO1 := Lib.hid (own_put HO.out (by simp) ki (x + y))
    clear HO
    have hg : w3.grownBy (w3.setCell ⟨gg, ki, none⟩ (.int .i64 (x + y))) (some gg) := grown_set _ _ _ _
    clear hci hcj hfi
    generalize hwn : (w3.setCell ⟨gg, ki, none⟩ (.int .i64 (x + y))) = v11 at *
    clear hwn
    have sz11 : w3.heap.size ≤ v11.heap.size := hg.size
    replace x1_f0 := fro_grow hg x1_0 x1_f0 (fun g e => by (have e2 : gg = g := by simpa using e); omega)
    replace x1_f1 := fro_grow hg x1_1 x1_f1 (fun g e => by (have e2 : gg = g := by simpa using e); omega)
    replace x0_0 := cell_grow hg x0_0 (fun g e => by (have e2 : gg = g := by simpa using e); omega)
    replace x0_1 := cell_grow hg x0_1 (fun g e => by (have e2 : gg = g := by simpa using e); omega)
    replace x1_0 := cell_grow hg x1_0 (fun g e => by (have e2 : gg = g := by simpa using e); omega)
    replace x1_1 := cell_grow hg x1_1 (fun g e => by (have e2 : gg = g := by simpa using e); omega)
    have HBh11 := Lib.hid (HB3.out.grown hg (by have := HB3.out.size; omega) (fun g e => by (have e2 : gg = g := by simpa using e); omega))
    clear hg
    have hb : Below v11.heap.size v11 v11.drew := (Below.refl _ _).drew
    generalize hwn : v11.drew = v12 at *
    clear hwn
    have sz12 : v11.heap.size ≤ v12.heap.size := hb.size
    replace x1_f0 := fro_keep hb x1_0 x1_f0
    replace x1_f1 := fro_keep hb x1_1 x1_f1
    replace x0_0 := cell_keep hb x0_0
    replace x0_1 := cell_keep hb x0_1
    replace x1_0 := cell_keep hb x1_0
    replace x1_1 := cell_keep hb x1_1
    replace HO1 := Lib.hid (HO1.out.below hb)
    have HBh12 := Lib.hid (HBh11.out.trans (hb.mono (by have := HBh11.out.size; omega)))
    clear hb
    refine wp_region_noPanic ?_
    refine wp_region_held_drew (S := fun w' => w'.cell? ⟨w.heap.size, 1, none⟩ = some (.int .i64 q)) (by kernel_rfl) ?_ (fun hHeld => ?_)
    · exact x0_1
    have hb : Below v12.heap.size v12 v12.drew := (Below.refl _ _).drew
    generalize hwn : v12.drew = v13 at *
    clear hwn
    have sz13 : v12.heap.size ≤ v13.heap.size := hb.size
    replace x1_f0 := fro_keep hb x1_0 x1_f0
    replace x1_f1 := fro_keep hb x1_1 x1_f1
    replace x0_0 := cell_keep hb x0_0
    replace x0_1 := cell_keep hb x0_1
    replace x1_0 := cell_keep hb x1_0
    replace x1_1 := cell_keep hb x1_1
    replace HO1 := Lib.hid (HO1.out.below hb)
    have HBh13 := Lib.hid (HBh12.out.trans (hb.mono (by have := HBh12.out.size; omega)))
    clear hb
    refine wpAnyH_take (i := 0) (v := ?_) rfl (by kernel_rfl) (by kernel_rfl) (by kernel_rfl) (fun _ _ _ h => h) (Or.inl ⟨by rfl, ?_⟩) (by assumption) ?_
    rotate_left
    · intro w9 hSw; (try dsimp only at hSw); go_simp; try with_reducible rfl
    try simp only [List.getElem_toArray, List.getElem_cons_succ, List.getElem_cons_zero, Act.put, List.setIfInBounds_toArray, List.set_cons_zero, List.set_cons_succ]
    refine wpAnyH_take (i := 1) (v := ?_) rfl (by kernel_rfl) (by kernel_rfl) (by kernel_rfl) (fun _ _ _ h => h) (Or.inl ⟨by rfl, ?_⟩) (by assumption) ?_
    rotate_left
    · intro w9 hSw; (try dsimp only at hSw); go_simp; try with_reducible rfl
    try simp only [List.getElem_toArray, List.getElem_cons_succ, List.getElem_cons_zero, Act.put, List.setIfInBounds_toArray, List.set_cons_zero, List.set_cons_succ]
    refine wpAnyH_take (i := 2) (v := ?_) rfl (by kernel_rfl) (by kernel_rfl) (by kernel_rfl) (fun _ _ _ h => h) (Or.inl ⟨by rfl, ?_⟩) (by assumption) ?_
    rotate_left
    · intro w9 hSw; (try dsimp only at hSw); go_simp; try with_reducible rfl
    try simp only [List.getElem_toArray, List.getElem_cons_succ, List.getElem_cons_zero, Act.put, List.setIfInBounds_toArray, List.set_cons_zero, List.set_cons_succ]
    refine wpAnyH_take (i := 3) (v := ?_) rfl (by kernel_rfl) (by kernel_rfl) (by kernel_rfl) (fun _ _ _ h => h) (Or.inl ⟨by rfl, ?_⟩) (by assumption) ?_
    rotate_left
    · intro w9 hSw; (try dsimp only at hSw); go_simp; try with_reducible rfl
    try simp only [List.getElem_toArray, List.getElem_cons_succ, List.getElem_cons_zero, Act.put, List.setIfInBounds_toArray, List.set_cons_zero, List.set_cons_succ]
    refine wpAnyH_take (i := 5) (v := ?_) rfl (by kernel_rfl) (by kernel_rfl) (by kernel_rfl) (fun _ _ _ h => h) (Or.inl ⟨by rfl, ?_⟩) (by assumption) ?_
    rotate_left
    · intro w9 hSw; (try dsimp only at hSw); go_simp; try with_reducible rfl
    try simp only [List.getElem_toArray, List.getElem_cons_succ, List.getElem_cons_zero, Act.put, List.setIfInBounds_toArray, List.set_cons_zero, List.set_cons_succ]
    refine wpAnyH_take (i := 6) (v := ?_) rfl (by kernel_rfl) (by kernel_rfl) (by kernel_rfl) (fun _ _ _ h => h) (Or.inl ⟨by rfl, ?_⟩) (by assumption) ?_
    rotate_left
    · intro w9 hSw; (try dsimp only at hSw); go_simp; try with_reducible rfl
    try simp only [List.getElem_toArray, List.getElem_cons_succ, List.getElem_cons_zero, Act.put, List.setIfInBounds_toArray, List.set_cons_zero, List.set_cons_succ]
    refine wpAnyH_ready (rs := [4]) (by kernel_rfl) (by simp) ?_
    refine AllReadyH.cons rfl (fun K hK => ?_) AllReadyH.nil
    clear hHeld
    go_simp
    refine (del_own HO1.out (by simp) hkj).mono ?_
    rintro e v15 ⟨rfl, ho, v14, hb, hg⟩
    clear HO1
    have HO2 := Lib.hid ho
    clear ho
    have sz14 : v13.heap.size ≤ v14.heap.size := hb.size
    replace x1_f0 := fro_keep hb x1_0 x1_f0
    replace x1_f1 := fro_keep hb x1_1 x1_f1
    replace x0_0 := cell_keep hb x0_0
    replace x0_1 := cell_keep hb x0_1
    replace x1_0 := cell_keep hb x1_0
    replace x1_1 := cell_keep hb x1_1
    have HBh14 := Lib.hid (HBh13.out.trans (hb.mono (by have := HBh13.out.size; omega)))
    clear hb
    have sz15 : v14.heap.size ≤ v15.heap.size := hg.size
    replace x1_f0 := fro_grow hg x1_0 x1_f0 (fun g e => by (have e2 : gg = g := by simpa using e); omega)
    replace x1_f1 := fro_grow hg x1_1 x1_f1 (fun g e => by (have e2 : gg = g := by simpa using e); omega)
    replace x0_0 := cell_grow hg x0_0 (fun g e => by (have e2 : gg = g := by simpa using e); omega)
    replace x0_1 := cell_grow hg x0_1 (fun g e => by (have e2 : gg = g := by simpa using e); omega)
    replace x1_0 := cell_grow hg x1_0 (fun g e => by (have e2 : gg = g := by simpa using e); omega)
    replace x1_1 := cell_grow hg x1_1 (fun g e => by (have e2 : gg = g := by simpa using e); omega)
    have HBh15 := Lib.hid (HBh14.out.grown hg (by have := HBh14.out.size; omega) (fun g e => by (have e2 : gg = g := by simpa using e); omega))
    clear hg
    rw [← HMA.out] at HO2
    refine hK.out _ _ ?_ (fun hHeld => ?_)
    · exact x0_1
    clear hK K
    try simp only [List.getElem_toArray, List.getElem_cons_succ, List.getElem_cons_zero, Act.put, List.setIfInBounds_toArray, List.set_cons_zero, List.set_cons_succ]
    refine wpAnyH_take (i := 7) (v := ?_) rfl (by kernel_rfl) (by kernel_rfl) (by kernel_rfl) (fun _ _ _ h => h) (Or.inl ⟨by rfl, ?_⟩) (by assumption) ?_
    rotate_left
    · intro w9 hSw; (try dsimp only at hSw); go_simp; try with_reducible rfl
    try simp only [List.getElem_toArray, List.getElem_cons_succ, List.getElem_cons_zero, Act.put, List.setIfInBounds_toArray, List.set_cons_zero, List.set_cons_succ]
    refine wpAnyH_ready (rs := [8]) (by kernel_rfl) (by simp) ?_
    refine AllReadyH.cons rfl (fun K hK => ?_) AllReadyH.nil
    clear hHeld
    go_simp
    have HK := fun wz hz => impl_kept_yes (some ⟨gg, 0, none⟩) ms q1 q wz hz (by omega) HKEPT
    rw [hml] at HK
    refine (HK _ HO2.out.reads).mono ?_
    clear HK
    rintro e v16 ⟨rfl, hb⟩
    have sz16 : v15.heap.size ≤ v16.heap.size := hb.size
    replace x1_f0 := fro_keep hb x1_0 x1_f0
    replace x1_f1 := fro_keep hb x1_1 x1_f1
    replace x0_0 := cell_keep hb x0_0
    replace x0_1 := cell_keep hb x0_1
    replace x1_0 := cell_keep hb x1_0
    replace x1_1 := cell_keep hb x1_1
    replace HO2 := Lib.hid (HO2.out.below hb)
    have HBh16 := Lib.hid (HBh15.out.trans (hb.mono (by have := HBh15.out.size; omega)))
    clear hb
    refine hK.out _ _ ?_ (fun hHeld => ?_)
    · exact x0_1
    clear hK K
    try simp only [List.getElem_toArray, List.getElem_cons_succ, List.getElem_cons_zero, Act.put, List.setIfInBounds_toArray, List.set_cons_zero, List.set_cons_succ]
    refine wpAnyH_take (i := 9) (v := ?_) rfl (by kernel_rfl) (by kernel_rfl) (by kernel_rfl) (fun _ _ _ h => h) (Or.inl ⟨by rfl, ?_⟩) (by assumption) ?_
    rotate_left
    · intro w9 hSw; (try dsimp only at hSw); go_simp; try with_reducible rfl
    try simp only [List.getElem_toArray, List.getElem_cons_succ, List.getElem_cons_zero, Act.put, List.setIfInBounds_toArray, List.set_cons_zero, List.set_cons_succ]
    refine wpAnyH_take (i := 10) (v := ?_) rfl (by kernel_rfl) (by kernel_rfl) (by kernel_rfl) (fun _ _ _ h => h) (Or.inl ⟨by rfl, ?_⟩) (by assumption) ?_
    rotate_left
    · intro w9 hSw; (try dsimp only at hSw); go_simp; try with_reducible rfl
    try simp only [List.getElem_toArray, List.getElem_cons_succ, List.getElem_cons_zero, Act.put, List.setIfInBounds_toArray, List.set_cons_zero, List.set_cons_succ]
    refine wpAnyH_ready (rs := [11]) (by kernel_rfl) (by simp) ?_
    refine AllReadyH.cons rfl (fun K hK => ?_) AllReadyH.nil
    clear hHeld
    go_simp
    have hg : v16.grownBy ((v16.setCell ⟨w.heap.size + 1, 0, none⟩ (.slice (some ⟨gg, 0, none⟩) (ws.length - 1) q1)).setCell ⟨w.heap.size + 1, 1, none⟩ (.int .i64 q)) (some (w.heap.size + 1)) := grown_trans (grown_set v16 (w.heap.size + 1) 0 (.slice (some ⟨gg, 0, none⟩) (ws.length - 1) q1)) (grown_set _ (w.heap.size + 1) 1 (.int .i64 q))
    have nx0 : ((v16.setCell ⟨w.heap.size + 1, 0, none⟩ (.slice (some ⟨gg, 0, none⟩) (ws.length - 1) q1)).setCell ⟨w.heap.size + 1, 1, none⟩ (.int .i64 q)).cell? ⟨w.heap.size + 1, 0, none⟩ = some (.slice (some ⟨gg, 0, none⟩) (ws.length - 1) q1) := (World.cell?_setCell_other _ _ _ _ (by simp)).trans (World.cell?_setCell_same _ _ _ x1_0)
    have nf0 : ((v16.setCell ⟨w.heap.size + 1, 0, none⟩ (.slice (some ⟨gg, 0, none⟩) (ws.length - 1) q1)).setCell ⟨w.heap.size + 1, 1, none⟩ (.int .i64 q)).frozen? ⟨w.heap.size + 1, 0, none⟩ = false := by simp only [World.frozen?_setCell]; exact x1_f0
    have nx1 : ((v16.setCell ⟨w.heap.size + 1, 0, none⟩ (.slice (some ⟨gg, 0, none⟩) (ws.length - 1) q1)).setCell ⟨w.heap.size + 1, 1, none⟩ (.int .i64 q)).cell? ⟨w.heap.size + 1, 1, none⟩ = some (.int .i64 q) := World.cell?_setCell_same _ _ _ ((World.cell?_setCell_other _ _ _ _ (by simp)).trans x1_1)
    have nf1 : ((v16.setCell ⟨w.heap.size + 1, 0, none⟩ (.slice (some ⟨gg, 0, none⟩) (ws.length - 1) q1)).setCell ⟨w.heap.size + 1, 1, none⟩ (.int .i64 q)).frozen? ⟨w.heap.size + 1, 1, none⟩ = false := by simp only [World.frozen?_setCell]; exact x1_f1
    clear x1_0 x1_f0 x1_1 x1_f1
    generalize hwn : ((v16.setCell ⟨w.heap.size + 1, 0, none⟩ (.slice (some ⟨gg, 0, none⟩) (ws.length - 1) q1)).setCell ⟨w.heap.size + 1, 1, none⟩ (.int .i64 q)) = v17 at *
    clear hwn
    have sz17 : v16.heap.size ≤ v17.heap.size := hg.size
    replace x0_0 := cell_grow hg x0_0 (fun g e => by (have e2 : w.heap.size + 1 = g := by simpa using e); omega)
    replace x0_1 := cell_grow hg x0_1 (fun g e => by (have e2 : w.heap.size + 1 = g := by simpa using e); omega)
    replace HO2 := Lib.hid (own_grow hg HO2.out (fun g e => by (have e2 : w.heap.size + 1 = g := by simpa using e); omega))
    have HBh17 := Lib.hid (HBh16.out.grown hg (by have := HBh16.out.size; omega) (fun g e => by (have e2 : w.heap.size + 1 = g := by simpa using e); omega))
    have x1_0 := nx0
    have x1_f0 := nf0
    have x1_1 := nx1
    have x1_f1 := nf1
    clear hg nx0 nf0 nx1 nf1
    refine hK.out _ _ ?_ (fun hHeld => ?_)
    · exact x0_1
    clear hK K
    try simp only [List.getElem_toArray, List.getElem_cons_succ, List.getElem_cons_zero, Act.put, List.setIfInBounds_toArray, List.set_cons_zero, List.set_cons_succ]
    refine wpAnyH_take (i := 12) (v := ?_) rfl (by kernel_rfl) (by kernel_rfl) (by kernel_rfl) (fun _ _ _ h => h) (Or.inl ⟨by rfl, ?_⟩) (by assumption) ?_
    rotate_left
    · intro w9 hSw; (try dsimp only at hSw); go_simp; try with_reducible rfl
    try simp only [List.getElem_toArray, List.getElem_cons_succ, List.getElem_cons_zero, Act.put, List.setIfInBounds_toArray, List.set_cons_zero, List.set_cons_succ]
    refine wpAnyH_done (by kernel_rfl) ?_ _
    refine NoPanic.normal ?_
    clear hHeld
    go_wp2_with fail
    refine bodyPost_ret (v := .tuple #[.agg #[.slice (some ⟨gg, 0, none⟩) (ws.length - 1) q1, .int .i64 q], .bool true]) (by simp [results, Try.results31, go_sem, x1_0, x1_1]) rfl ⟨_, rfl, ?_, HBh17.out⟩
    exact HO2.out.mono (by omega) (by omega)
  refine AllReady.cons rfl (fun K hK => ?_) AllReady.nil
  go_simp
  refine hK _ _ ?_
  clear hK K
  try simp only [List.getElem_toArray, List.getElem_cons_succ, List.getElem_cons_zero, Act.put, List.setIfInBounds_toArray, List.set_cons_zero, List.set_cons_succ]
  refine wpAny_ready (rs := [3]) (by kernel_rfl) (by simp) ?_
  refine AllReady.cons rfl (fun K hK => ?_) AllReady.nil
  go_simp
  refine hK _ _ ?_
  clear hK K
  try simp only [List.getElem_toArray, List.getElem_cons_succ, List.getElem_cons_zero, Act.put, List.setIfInBounds_toArray, List.set_cons_zero, List.set_cons_succ]
  refine wpAny_take (i := 8) (v := ?_) rfl (by kernel_rfl) (by kernel_rfl) (by kernel_rfl) (fun _ _ _ h => h) (Or.inl ⟨by rfl, ?_⟩) ?_
  rotate_left
  · intro w; go_simp; try with_reducible rfl
  try simp only [List.getElem_toArray, List.getElem_cons_succ, List.getElem_cons_zero, Act.put, List.setIfInBounds_toArray, List.set_cons_zero, List.set_cons_succ]
  refine wpAny_take (i := 9) (v := ?_) rfl (by kernel_rfl) (by kernel_rfl) (by kernel_rfl) (fun _ _ _ h => h) (Or.inl ⟨by rfl, ?_⟩) ?_
  rotate_left
  · intro w; go_simp; try with_reducible rfl
  try simp only [List.getElem_toArray, List.getElem_cons_succ, List.getElem_cons_zero, Act.put, List.setIfInBounds_toArray, List.set_cons_zero, List.set_cons_succ]
  refine wpAny_ready (rs := [10]) (by kernel_rfl) (by simp) ?_
  refine AllReady.cons rfl (fun K hK => ?_) AllReady.nil
  go_simp
  refine hK _ _ ?_
  clear hK K
  try simp only [List.getElem_toArray, List.getElem_cons_succ, List.getElem_cons_zero, Act.put, List.setIfInBounds_toArray, List.set_cons_zero, List.set_cons_succ]
  refine wpAny_done (by kernel_rfl) ?_ _
  go_wp2_with fail
  have HO1 := Lib.hid (own_put HO.out (by simp) ki (x + y))
  clear HO
  have hg : w3.grownBy (w3.setCell ⟨gg, ki, none⟩ (.int .i64 (x + y))) (some gg) := grown_set _ _ _ _
  clear hci hcj hfi
  generalize hwn : (w3.setCell ⟨gg, ki, none⟩ (.int .i64 (x + y))) = v11 at *
  clear hwn
  have sz11 : w3.heap.size ≤ v11.heap.size := hg.size
  replace x1_f0 := fro_grow hg x1_0 x1_f0 (fun g e => by (have e2 : gg = g := by simpa using e); omega)
  replace x1_f1 := fro_grow hg x1_1 x1_f1 (fun g e => by (have e2 : gg = g := by simpa using e); omega)
  replace x0_0 := cell_grow hg x0_0 (fun g e => by (have e2 : gg = g := by simpa using e); omega)
  replace x0_1 := cell_grow hg x0_1 (fun g e => by (have e2 : gg = g := by simpa using e); omega)
  replace x1_0 := cell_grow hg x1_0 (fun g e => by (have e2 : gg = g := by simpa using e); omega)
  replace x1_1 := cell_grow hg x1_1 (fun g e => by (have e2 : gg = g := by simpa using e); omega)
  have HBh11 := Lib.hid (HB3.out.grown hg (by have := HB3.out.size; omega) (fun g e => by (have e2 : gg = g := by simpa using e); omega))
  clear hg
  have hb : Below v11.heap.size v11 v11.drew := (Below.refl _ _).drew
  generalize hwn : v11.drew = v12 at *
  clear hwn
  have sz12 : v11.heap.size ≤ v12.heap.size := hb.size
  replace x1_f0 := fro_keep hb x1_0 x1_f0
  replace x1_f1 := fro_keep hb x1_1 x1_f1
  replace x0_0 := cell_keep hb x0_0
  replace x0_1 := cell_keep hb x0_1
  replace x1_0 := cell_keep hb x1_0
  replace x1_1 := cell_keep hb x1_1
  replace HO1 := Lib.hid (HO1.out.below hb)
  have HBh12 := Lib.hid (HBh11.out.trans (hb.mono (by have := HBh11.out.size; omega)))
  clear hb
  refine wp_region_noPanic ?_
  refine wp_region_held_drew (S := fun w' => w'.cell? ⟨w.heap.size, 1, none⟩ = some (.int .i64 q)) (by kernel_rfl) ?_ (fun hHeld => ?_)
  · exact x0_1
  have hb : Below v12.heap.size v12 v12.drew := (Below.refl _ _).drew
  generalize hwn : v12.drew = v13 at *
  clear hwn
  have sz13 : v12.heap.size ≤ v13.heap.size := hb.size
  replace x1_f0 := fro_keep hb x1_0 x1_f0
  replace x1_f1 := fro_keep hb x1_1 x1_f1
  replace x0_0 := cell_keep hb x0_0
  replace x0_1 := cell_keep hb x0_1
  replace x1_0 := cell_keep hb x1_0
  replace x1_1 := cell_keep hb x1_1
  replace HO1 := Lib.hid (HO1.out.below hb)
  have HBh13 := Lib.hid (HBh12.out.trans (hb.mono (by have := HBh12.out.size; omega)))
  clear hb
  refine wpAnyH_take (i := 0) (v := ?_) rfl (by kernel_rfl) (by kernel_rfl) (by kernel_rfl) (fun _ _ _ h => h) (Or.inl ⟨by rfl, ?_⟩) (by assumption) ?_
  rotate_left
  · intro w9 hSw; (try dsimp only at hSw); go_simp; try with_reducible rfl
  try simp only [List.getElem_toArray, List.getElem_cons_succ, List.getElem_cons_zero, Act.put, List.setIfInBounds_toArray, List.set_cons_zero, List.set_cons_succ]
  refine wpAnyH_take (i := 1) (v := ?_) rfl (by kernel_rfl) (by kernel_rfl) (by kernel_rfl) (fun _ _ _ h => h) (Or.inl ⟨by rfl, ?_⟩) (by assumption) ?_
  rotate_left
  · intro w9 hSw; (try dsimp only at hSw); go_simp; try with_reducible rfl
  try simp only [List.getElem_toArray, List.getElem_cons_succ, List.getElem_cons_zero, Act.put, List.setIfInBounds_toArray, List.set_cons_zero, List.set_cons_succ]
  refine wpAnyH_take (i := 2) (v := ?_) rfl (by kernel_rfl) (by kernel_rfl) (by kernel_rfl) (fun _ _ _ h => h) (Or.inl ⟨by rfl, ?_⟩) (by assumption) ?_
  rotate_left
  · intro w9 hSw; (try dsimp only at hSw); go_simp; try with_reducible rfl
  try simp only [List.getElem_toArray, List.getElem_cons_succ, List.getElem_cons_zero, Act.put, List.setIfInBounds_toArray, List.set_cons_zero, List.set_cons_succ]
  refine wpAnyH_take (i := 3) (v := ?_) rfl (by kernel_rfl) (by kernel_rfl) (by kernel_rfl) (fun _ _ _ h => h) (Or.inl ⟨by rfl, ?_⟩) (by assumption) ?_
  rotate_left
  · intro w9 hSw; (try dsimp only at hSw); go_simp; try with_reducible rfl
  try simp only [List.getElem_toArray, List.getElem_cons_succ, List.getElem_cons_zero, Act.put, List.setIfInBounds_toArray, List.set_cons_zero, List.set_cons_succ]
  refine wpAnyH_take (i := 5) (v := ?_) rfl (by kernel_rfl) (by kernel_rfl) (by kernel_rfl) (fun _ _ _ h => h) (Or.inl ⟨by rfl, ?_⟩) (by assumption) ?_
  rotate_left
  · intro w9 hSw; (try dsimp only at hSw); go_simp; try with_reducible rfl
  try simp only [List.getElem_toArray, List.getElem_cons_succ, List.getElem_cons_zero, Act.put, List.setIfInBounds_toArray, List.set_cons_zero, List.set_cons_succ]
  refine wpAnyH_take (i := 6) (v := ?_) rfl (by kernel_rfl) (by kernel_rfl) (by kernel_rfl) (fun _ _ _ h => h) (Or.inl ⟨by rfl, ?_⟩) (by assumption) ?_
  rotate_left
  · intro w9 hSw; (try dsimp only at hSw); go_simp; try with_reducible rfl
  try simp only [List.getElem_toArray, List.getElem_cons_succ, List.getElem_cons_zero, Act.put, List.setIfInBounds_toArray, List.set_cons_zero, List.set_cons_succ]
  refine wpAnyH_ready (rs := [4]) (by kernel_rfl) (by simp) ?_
  refine AllReadyH.cons rfl (fun K hK => ?_) AllReadyH.nil
  clear hHeld
  go_simp
  refine (del_own HO1.out (by simp) hkj).mono ?_
  rintro e v15 ⟨rfl, ho, v14, hb, hg⟩
  clear HO1
  have HO2 := Lib.hid ho
  clear ho
  have sz14 : v13.heap.size ≤ v14.heap.size := hb.size
  replace x1_f0 := fro_keep hb x1_0 x1_f0
  replace x1_f1 := fro_keep hb x1_1 x1_f1
  replace x0_0 := cell_keep hb x0_0
  replace x0_1 := cell_keep hb x0_1
  replace x1_0 := cell_keep hb x1_0
  replace x1_1 := cell_keep hb x1_1
  have HBh14 := Lib.hid (HBh13.out.trans (hb.mono (by have := HBh13.out.size; omega)))
  clear hb
  have sz15 : v14.heap.size ≤ v15.heap.size := hg.size
  replace x1_f0 := fro_grow hg x1_0 x1_f0 (fun g e => by (have e2 : gg = g := by simpa using e); omega)
  replace x1_f1 := fro_grow hg x1_1 x1_f1 (fun g e => by (have e2 : gg = g := by simpa using e); omega)
  replace x0_0 := cell_grow hg x0_0 (fun g e => by (have e2 : gg = g := by simpa using e); omega)
  replace x0_1 := cell_grow hg x0_1 (fun g e => by (have e2 : gg = g := by simpa using e); omega)
  replace x1_0 := cell_grow hg x1_0 (fun g e => by (have e2 : gg = g := by simpa using e); omega)
  replace x1_1 := cell_grow hg x1_1 (fun g e => by (have e2 : gg = g := by simpa using e); omega)
  have HBh15 := Lib.hid (HBh14.out.grown hg (by have := HBh14.out.size; omega) (fun g e => by (have e2 : gg = g := by simpa using e); omega))
  clear hg
  rw [← HMA.out] at HO2
  refine hK.out _ _ ?_ (fun hHeld => ?_)
  · exact x0_1
  clear hK K
  try simp only [List.getElem_toArray, List.getElem_cons_succ, List.getElem_cons_zero, Act.put, List.setIfInBounds_toArray, List.set_cons_zero, List.set_cons_succ]
  refine wpAnyH_take (i := 7) (v := ?_) rfl (by kernel_rfl) (by kernel_rfl) (by kernel_rfl) (fun _ _ _ h => h) (Or.inl ⟨by rfl, ?_⟩) (by assumption) ?_
  rotate_left
  · intro w9 hSw; (try dsimp only at hSw); go_simp; try with_reducible rfl
  try simp only [List.getElem_toArray, List.getElem_cons_succ, List.getElem_cons_zero, Act.put, List.setIfInBounds_toArray, List.set_cons_zero, List.set_cons_succ]
  refine wpAnyH_ready (rs := [8]) (by kernel_rfl) (by simp) ?_
  refine AllReadyH.cons rfl (fun K hK => ?_) AllReadyH.nil
  clear hHeld
  go_simp
  have HK := fun wz hz => impl_kept_yes (some ⟨gg, 0, none⟩) ms q1 q wz hz (by omega) HKEPT
  rw [hml] at HK
  refine (HK _ HO2.out.reads).mono ?_
  clear HK
  rintro e v16 ⟨rfl, hb⟩
  have sz16 : v15.heap.size ≤ v16.heap.size := hb.size
  replace x1_f0 := fro_keep hb x1_0 x1_f0
  replace x1_f1 := fro_keep hb x1_1 x1_f1
  replace x0_0 := cell_keep hb x0_0
  replace x0_1 := cell_keep hb x0_1
  replace x1_0 := cell_keep hb x1_0
  replace x1_1 := cell_keep hb x1_1
  replace HO2 := Lib.hid (HO2.out.below hb)
  have HBh16 := Lib.hid (HBh15.out.trans (hb.mono (by have := HBh15.out.size; omega)))
  clear hb
  refine hK.out _ _ ?_ (fun hHeld => ?_)
  · exact x0_1
  clear hK K
  try simp only [List.getElem_toArray, List.getElem_cons_succ, List.getElem_cons_zero, Act.put, List.setIfInBounds_toArray, List.set_cons_zero, List.set_cons_succ]
  refine wpAnyH_take (i := 9) (v := ?_) rfl (by kernel_rfl) (by kernel_rfl) (by kernel_rfl) (fun _ _ _ h => h) (Or.inl ⟨by rfl, ?_⟩) (by assumption) ?_
  rotate_left
  · intro w9 hSw; (try dsimp only at hSw); go_simp; try with_reducible rfl
  try simp only [List.getElem_toArray, List.getElem_cons_succ, List.getElem_cons_zero, Act.put, List.setIfInBounds_toArray, List.set_cons_zero, List.set_cons_succ]
  refine wpAnyH_take (i := 10) (v := ?_) rfl (by kernel_rfl) (by kernel_rfl) (by kernel_rfl) (fun _ _ _ h => h) (Or.inl ⟨by rfl, ?_⟩) (by assumption) ?_
  rotate_left
  · intro w9 hSw; (try dsimp only at hSw); go_simp; try with_reducible rfl
  try simp only [List.getElem_toArray, List.getElem_cons_succ, List.getElem_cons_zero, Act.put, List.setIfInBounds_toArray, List.set_cons_zero, List.set_cons_succ]
  refine wpAnyH_ready (rs := [11]) (by kernel_rfl) (by simp) ?_
  refine AllReadyH.cons rfl (fun K hK => ?_) AllReadyH.nil
  clear hHeld
  go_simp
  have hg : v16.grownBy ((v16.setCell ⟨w.heap.size + 1, 0, none⟩ (.slice (some ⟨gg, 0, none⟩) (ws.length - 1) q1)).setCell ⟨w.heap.size + 1, 1, none⟩ (.int .i64 q)) (some (w.heap.size + 1)) := grown_trans (grown_set v16 (w.heap.size + 1) 0 (.slice (some ⟨gg, 0, none⟩) (ws.length - 1) q1)) (grown_set _ (w.heap.size + 1) 1 (.int .i64 q))
  have nx0 : ((v16.setCell ⟨w.heap.size + 1, 0, none⟩ (.slice (some ⟨gg, 0, none⟩) (ws.length - 1) q1)).setCell ⟨w.heap.size + 1, 1, none⟩ (.int .i64 q)).cell? ⟨w.heap.size + 1, 0, none⟩ = some (.slice (some ⟨gg, 0, none⟩) (ws.length - 1) q1) := (World.cell?_setCell_other _ _ _ _ (by simp)).trans (World.cell?_setCell_same _ _ _ x1_0)
  have nf0 : ((v16.setCell ⟨w.heap.size + 1, 0, none⟩ (.slice (some ⟨gg, 0, none⟩) (ws.length - 1) q1)).setCell ⟨w.heap.size + 1, 1, none⟩ (.int .i64 q)).frozen? ⟨w.heap.size + 1, 0, none⟩ = false := by simp only [World.frozen?_setCell]; exact x1_f0
  have nx1 : ((v16.setCell ⟨w.heap.size + 1, 0, none⟩ (.slice (some ⟨gg, 0, none⟩) (ws.length - 1) q1)).setCell ⟨w.heap.size + 1, 1, none⟩ (.int .i64 q)).cell? ⟨w.heap.size + 1, 1, none⟩ = some (.int .i64 q) := World.cell?_setCell_same _ _ _ ((World.cell?_setCell_other _ _ _ _ (by simp)).trans x1_1)
  have nf1 : ((v16.setCell ⟨w.heap.size + 1, 0, none⟩ (.slice (some ⟨gg, 0, none⟩) (ws.length - 1) q1)).setCell ⟨w.heap.size + 1, 1, none⟩ (.int .i64 q)).frozen? ⟨w.heap.size + 1, 1, none⟩ = false := by simp only [World.frozen?_setCell]; exact x1_f1
  clear x1_0 x1_f0 x1_1 x1_f1
  generalize hwn : ((v16.setCell ⟨w.heap.size + 1, 0, none⟩ (.slice (some ⟨gg, 0, none⟩) (ws.length - 1) q1)).setCell ⟨w.heap.size + 1, 1, none⟩ (.int .i64 q)) = v17 at *
  clear hwn
  have sz17 : v16.heap.size ≤ v17.heap.size := hg.size
  replace x0_0 := cell_grow hg x0_0 (fun g e => by (have e2 : w.heap.size + 1 = g := by simpa using e); omega)
  replace x0_1 := cell_grow hg x0_1 (fun g e => by (have e2 : w.heap.size + 1 = g := by simpa using e); omega)
  replace HO2 := Lib.hid (own_grow hg HO2.out (fun g e => by (have e2 : w.heap.size + 1 = g := by simpa using e); omega))
  have HBh17 := Lib.hid (HBh16.out.grown hg (by have := HBh16.out.size; omega) (fun g e => by (have e2 : w.heap.size + 1 = g := by simpa using e); omega))
  have x1_0 := nx0
  have x1_f0 := nf0
  have x1_1 := nx1
  have x1_f1 := nf1
  clear hg nx0 nf0 nx1 nf1
  refine hK.out _ _ ?_ (fun hHeld => ?_)
  · exact x0_1
  clear hK K
  try simp only [List.getElem_toArray, List.getElem_cons_succ, List.getElem_cons_zero, Act.put, List.setIfInBounds_toArray, List.set_cons_zero, List.set_cons_succ]
  refine wpAnyH_take (i := 12) (v := ?_) rfl (by kernel_rfl) (by kernel_rfl) (by kernel_rfl) (fun _ _ _ h => h) (Or.inl ⟨by rfl, ?_⟩) (by assumption) ?_
  rotate_left
  · intro w9 hSw; (try dsimp only at hSw); go_simp; try with_reducible rfl
  try simp only [List.getElem_toArray, List.getElem_cons_succ, List.getElem_cons_zero, Act.put, List.setIfInBounds_toArray, List.set_cons_zero, List.set_cons_succ]
  refine wpAnyH_done (by kernel_rfl) ?_ _
  refine NoPanic.normal ?_
  clear hHeld
  go_wp2_with fail
  refine bodyPost_ret (v := .tuple #[.agg #[.slice (some ⟨gg, 0, none⟩) (ws.length - 1) q1, .int .i64 q], .bool true]) (by simp [results, Try.results31, go_sem, x1_0, x1_1]) rfl ⟨_, rfl, ?_, HBh17.out⟩
  exact HO2.out.mono (by omega) (by omega)
set_option maxRecDepth 100000 in
set_option maxHeartbeats 4000000 in
theorem impl_out (a : Option Addr) (ws : List Int) (c : Nat) (q : Int) (w : World) (hr : ints.Reads .i64 w a ws) (hn : ws.length ≤ 1048576) (i j : Int) (h : Hid (voterB ws q i = true)) (h2 : Hid (voterB ws q j = true)) (hne : i ≠ j) (hkept : voteB (mergeTo ws i.toNat j.toNat ws.length) q = false) :
    Calls Try.prog 31 #[.agg #[.slice a ws.length c, .int .i64 q], .int .i64 i, .int .i64 j] w (RetPB [] 0 false w) := by
  obtain ⟨hv, hi0, hi1⟩ := (voter_iff _ _ _).1 h.out
  obtain ⟨_, hj0, hj1⟩ := (voter_iff _ _ _).1 h2.out
  have h18 := ((vote_iff _ _).1 hv).1
  obtain ⟨ki, rfl⟩ : ∃ k : Nat, i = k := ⟨i.toNat, by omega⟩
  obtain ⟨kj, rfl⟩ : ∃ k : Nat, j = k := ⟨j.toNat, by omega⟩
  rw [Int.toNat_natCast, Int.toNat_natCast] at hkept
  have hki : ki < ws.length := by omega
  have hkj : kj < ws.length := by omega
  have hkk : ¬ ((ki : Int) = (kj : Int)) := hne
  have HKEPT := Lib.hid hkept
  have HVA := Lib.hid (vote_at hv)
  clear hv hi0 hi1 hj0 hj1 hkept hne
  have Hhr := Lib.hid hr
  clear hr
  go_enter Try.func31, Try.ntmps31
  go_wp2_with fail
  have x0_0 : (w.alloc (.cells #[.slice a ws.length c, .int .i64 q] 27)).cell? ⟨w.heap.size, 0, none⟩ = some (.slice a ws.length c) := cell_new _ _ _ (by simp) rfl
  have x0_1 : (w.alloc (.cells #[.slice a ws.length c, .int .i64 q] 27)).cell? ⟨w.heap.size, 1, none⟩ = some (.int .i64 q) := cell_new _ _ _ (by simp) rfl
  have HB0 := Lib.hid (below_alloc w (.cells #[.slice a ws.length c, .int .i64 q] 27))
  replace x0_0 := cell_old (.cells #[.slice none 0 0, .int .i64 0] 27) x0_0
  replace x0_1 := cell_old (.cells #[.slice none 0 0, .int .i64 0] 27) x0_1
  have x1_0 : ((w.alloc (.cells #[.slice a ws.length c, .int .i64 q] 27)).alloc (.cells #[.slice none 0 0, .int .i64 0] 27)).cell? ⟨w.heap.size + 1, 0, none⟩ = some (.slice none 0 0) := cell_new _ _ _ (by simp) rfl
  have x1_1 : ((w.alloc (.cells #[.slice a ws.length c, .int .i64 q] 27)).alloc (.cells #[.slice none 0 0, .int .i64 0] 27)).cell? ⟨w.heap.size + 1, 1, none⟩ = some (.int .i64 0) := cell_new _ _ _ (by simp) rfl
  have f1_0 : ((w.alloc (.cells #[.slice a ws.length c, .int .i64 q] 27)).alloc (.cells #[.slice none 0 0, .int .i64 0] 27)).frozen? ⟨w.heap.size + 1, 0, none⟩ = false := fro_new _ _ _ (by simp)
  have f1_1 : ((w.alloc (.cells #[.slice a ws.length c, .int .i64 q] 27)).alloc (.cells #[.slice none 0 0, .int .i64 0] 27)).frozen? ⟨w.heap.size + 1, 1, none⟩ = false := fro_new _ _ _ (by simp)
  replace HB0 := Lib.hid (HB0.out.alloc (by simp) (.cells #[.slice none 0 0, .int .i64 0] 27))
  have s0 : w.heap.size + 2 ≤ ((w.alloc (.cells #[.slice a ws.length c, .int .i64 q] 27)).alloc (.cells #[.slice none 0 0, .int .i64 0] 27)).heap.size := by simp
  generalize hw : ((w.alloc (.cells #[.slice a ws.length c, .int .i64 q] 27)).alloc (.cells #[.slice none 0 0, .int .i64 0] 27)) = w0 at *
  clear hw
  have n0_0 : w.heap.size < w0.heap.size := by omega
  have n0_1 : w.heap.size + 1 < w0.heap.size := by omega
  refine (impl_voter a ws c q _ (Hhr.out.below HB0.out) hn ki true h).mono ?_
  rintro e w1 ⟨rfl, hb⟩
  have s1 : w0.heap.size ≤ w1.heap.size := hb.size
  have n1_0 : w.heap.size < w1.heap.size := by omega
  have n1_1 : w.heap.size + 1 < w1.heap.size := by omega
  replace x0_0 := cell_below hb x0_0 (by omega)
  replace x0_1 := cell_below hb x0_1 (by omega)
  replace x1_0 := cell_below hb x1_0 (by omega)
  replace x1_1 := cell_below hb x1_1 (by omega)
  replace f1_0 := fro_below hb f1_0 (by omega)
  replace f1_1 := fro_below hb f1_1 (by omega)
  have HB1 := Lib.hid (HB0.out.trans (hb.mono (by omega)))
  clear hb
  go_wp2_with fail
  refine (impl_voter a ws c q _ (Hhr.out.below HB1.out) hn kj true h2).mono ?_
  rintro e w2 ⟨rfl, hb⟩
  have s2 : w1.heap.size ≤ w2.heap.size := hb.size
  have n2_0 : w.heap.size < w2.heap.size := by omega
  have n2_1 : w.heap.size + 1 < w2.heap.size := by omega
  replace x0_0 := cell_below hb x0_0 (by omega)
  replace x0_1 := cell_below hb x0_1 (by omega)
  replace x1_0 := cell_below hb x1_0 (by omega)
  replace x1_1 := cell_below hb x1_1 (by omega)
  replace f1_0 := fro_below hb f1_0 (by omega)
  replace f1_1 := fro_below hb f1_1 (by omega)
  have HB2 := Lib.hid (HB1.out.trans (hb.mono (by omega)))
  clear hb
  go_wp2_with fail
  refine (clone_own a ws c _ (Hhr.out.below HB2.out) hn (by omega)).mono ?_
  rintro e w3 ⟨v, rfl, ho, hb⟩
  obtain ⟨p1, q1, rfl, _, _, _⟩ := ho.slice
  have s3 : w2.heap.size ≤ w3.heap.size := hb.size
  have n3_0 : w.heap.size < w3.heap.size := by omega
  have n3_1 : w.heap.size + 1 < w3.heap.size := by omega
  replace x0_0 := cell_below hb x0_0 (by omega)
  replace x0_1 := cell_below hb x0_1 (by omega)
  replace x1_0 := cell_below hb x1_0 (by omega)
  replace x1_1 := cell_below hb x1_1 (by omega)
  replace f1_0 := fro_below hb f1_0 (by omega)
  replace f1_1 := fro_below hb f1_1 (by omega)
  have HB3 := Lib.hid (HB2.out.trans (hb.mono (by omega)))
  clear hb
  have HO := Lib.hid ho
  clear ho
  obtain ⟨gg, hq1, hq2, hq3⟩ := own_block HO.out (by omega)
  subst hq1
  have hci := own_cell HO.out rfl ki hki
  have hcj := own_cell HO.out rfl kj hkj
  have hfi := own_fro HO.out rfl ki
  have i1 : (0 : Int) ≤ (ki : Int) := by omega
  have i2 : (ki : Int) < (ws.length : Int) := by omega
  have i3 : (0 : Int) ≤ (kj : Int) := by omega
  have i4 : (kj : Int) < (ws.length : Int) := by omega
  have e1 : IntKind.i64.wrap (ws.getD ki 0 + ws.getD kj 0) = ws.getD ki 0 + ws.getD kj 0 := by (have b1 := HVA.out ki hki; have b2 := HVA.out kj hkj; exact IntWalk.i64_in _ (by omega))
  have e2 : IntKind.i64.wrap ((kj : Int) + 1) = (kj : Int) + 1 := IntWalk.i64_in _ (by omega)
  have hma := merge_all ws ki kj hki hkj
  have hml := merge_length ws ki kj hki hkj
  generalize mergeTo ws ki kj ws.length = ms at *
  generalize ws.getD ki 0 = x at *
  generalize ws.getD kj 0 = y at *
  have HMA := Lib.hid hma
  clear hma
  go_wp2_with fail
  have x1_f0 := f1_0
  clear f1_0
  have x1_f1 := f1_1
  clear f1_1
  have hown : OwnI w2.heap.size w3.heap.size w3 (.slice (some ⟨gg, 0, none⟩) ws.length q1) ws := HO.out
  replace HO := Lib.hid hown
  clear hown
  refine wp_region_any (by kernel_rfl) ?_
  try (change wpAny _ _ _ _ _ _ _ (World.drew _))
  refine wpAny_take (i := 0) (v := ?_) rfl (by kernel_rfl) (by kernel_rfl) (by kernel_rfl) (fun _ _ _ h => h) (Or.inl ⟨by rfl, ?_⟩) ?_
  rotate_left
  · intro w; go_simp; try with_reducible rfl
  try simp only [List.getElem_toArray, List.getElem_cons_succ, List.getElem_cons_zero, Act.put, List.setIfInBounds_toArray, List.set_cons_zero, List.set_cons_succ]
  refine wpAny_take (i := 1) (v := ?_) rfl (by kernel_rfl) (by kernel_rfl) (by kernel_rfl) (fun _ _ _ h => h) (Or.inl ⟨by rfl, ?_⟩) ?_
  rotate_left
  · intro w; go_simp; try with_reducible rfl
  try simp only [List.getElem_toArray, List.getElem_cons_succ, List.getElem_cons_zero, Act.put, List.setIfInBounds_toArray, List.set_cons_zero, List.set_cons_succ]
  refine wpAny_take (i := 2) (v := ?_) rfl (by kernel_rfl) (by kernel_rfl) (by kernel_rfl) (fun _ _ _ h => h) (Or.inl ⟨by rfl, ?_⟩) ?_
  rotate_left
  · intro w; go_simp; try with_reducible rfl
  try simp only [List.getElem_toArray, List.getElem_cons_succ, List.getElem_cons_zero, Act.put, List.setIfInBounds_toArray, List.set_cons_zero, List.set_cons_succ]
  refine wpAny_take (i := 4) (v := ?_) rfl (by kernel_rfl) (by kernel_rfl) (by kernel_rfl) (fun _ _ _ h => h) (Or.inl ⟨by rfl, ?_⟩) ?_
  rotate_left
  · intro w; go_simp; try with_reducible rfl
  try simp only [List.getElem_toArray, List.getElem_cons_succ, List.getElem_cons_zero, Act.put, List.setIfInBounds_toArray, List.set_cons_zero, List.set_cons_succ]
  refine wpAny_take (i := 5) (v := ?_) rfl (by kernel_rfl) (by kernel_rfl) (by kernel_rfl) (fun _ _ _ h => h) (Or.inl ⟨by rfl, ?_⟩) ?_
  rotate_left
  · intro w; go_simp; try with_reducible rfl
  try simp only [List.getElem_toArray, List.getElem_cons_succ, List.getElem_cons_zero, Act.put, List.setIfInBounds_toArray, List.set_cons_zero, List.set_cons_succ]
  refine wpAny_take (i := 6) (v := ?_) rfl (by kernel_rfl) (by kernel_rfl) (by kernel_rfl) (fun _ _ _ h => h) (Or.inl ⟨by rfl, ?_⟩) ?_
  rotate_left
  · intro w; go_simp; try with_reducible rfl
  try simp only [List.getElem_toArray, List.getElem_cons_succ, List.getElem_cons_zero, Act.put, List.setIfInBounds_toArray, List.set_cons_zero, List.set_cons_succ]
  refine wpAny_ready (rs := [3, 7]) (by kernel_rfl) (by simp) ?_
  refine AllReady.cons rfl (fun K hK => ?_) ?_
  · skip
    go_simp
    refine hK _ _ ?_
    clear hK K
    try simp only [List.getElem_toArray, List.getElem_cons_succ, List.getElem_cons_zero, Act.put, List.setIfInBounds_toArray, List.set_cons_zero, List.set_cons_succ]
    refine wpAny_ready (rs := [7]) (by kernel_rfl) (by simp) ?_
    refine AllReady.cons rfl (fun K hK => ?_) AllReady.nil
    go_simp
    refine hK _ _ ?_
    clear hK K
    try simp only [List.getElem_toArray, List.getElem_cons_succ, List.getElem_cons_zero, Act.put, List.setIfInBounds_toArray, List.set_cons_zero, List.set_cons_succ]
    refine wpAny_take (i := 8) (v := ?_) rfl (by kernel_rfl) (by kernel_rfl) (by kernel_rfl) (fun _ _ _ h => h) (Or.inl ⟨by rfl, ?_⟩) ?_
    rotate_left
    · intro w; go_simp; try with_reducible rfl
    try simp only [List.getElem_toArray, List.getElem_cons_succ, List.getElem_cons_zero, Act.put, List.setIfInBounds_toArray, List.set_cons_zero, List.set_cons_succ]
    refine wpAny_take (i := 9) (v := ?_) rfl (by kernel_rfl) (by kernel_rfl) (by kernel_rfl) (fun _ _ _ h => h) (Or.inl ⟨by rfl, ?_⟩) ?_
    rotate_left
    · intro w; go_simp; try with_reducible rfl
    try simp only [List.getElem_toArray, List.getElem_cons_succ, List.getElem_cons_zero, Act.put, List.setIfInBounds_toArray, List.set_cons_zero, List.set_cons_succ]
    refine wpAny_ready (rs := [10]) (by kernel_rfl) (by simp) ?_
    refine AllReady.cons rfl (fun K hK => ?_) AllReady.nil
    go_simp
    refine hK _ _ ?_
    clear hK K
    try simp only [List.getElem_toArray, List.getElem_cons_succ, List.getElem_cons_zero, Act.put, List.setIfInBounds_toArray, List.set_cons_zero, List.set_cons_succ]
    refine wpAny_done (by kernel_rfl) ?_ _
    go_wp2_with fail
    have HO1 := Lib.hid (own_put HO.out (by simp) ki (x + y))
    clear HO
    have hg : w3.grownBy (w3.setCell ⟨gg, ki, none⟩ (.int .i64 (x + y))) (some gg) := grown_set _ _ _ _
    clear hci hcj hfi
    generalize hwn : (w3.setCell ⟨gg, ki, none⟩ (.int .i64 (x + y))) = v11 at *
    clear hwn
    have sz11 : w3.heap.size ≤ v11.heap.size := hg.size
    replace x1_f0 := fro_grow hg x1_0 x1_f0 (fun g e => by (have e2 : gg = g := by simpa using e); omega)
    replace x1_f1 := fro_grow hg x1_1 x1_f1 (fun g e => by (have e2 : gg = g := by simpa using e); omega)
    replace x0_0 := cell_grow hg x0_0 (fun g e => by (have e2 : gg = g := by simpa using e); omega)
    replace x0_1 := cell_grow hg x0_1 (fun g e => by (have e2 : gg = g := by simpa using e); omega)
    replace x1_0 := cell_grow hg x1_0 (fun g e => by (have e2 : gg = g := by simpa using e); omega)
    replace x1_1 := cell_grow hg x1_1 (fun g e => by (have e2 : gg = g := by simpa using e); omega)
    have HBh11 := Lib.hid (HB3.out.grown hg (by have := HB3.out.size; omega) (fun g e => by (have e2 : gg = g := by simpa using e); omega))
    clear hg
    have hb : Below v11.heap.size v11 v11.drew := (Below.refl _ _).drew
    generalize hwn : v11.drew = v12 at *
    clear hwn
    have sz12 : v11.heap.size ≤ v12.heap.size := hb.size
    replace x1_f0 := fro_keep hb x1_0 x1_f0
    replace x1_f1 := fro_keep hb x1_1 x1_f1
    replace x0_0 := cell_keep hb x0_0
    replace x0_1 := cell_keep hb x0_1
    replace x1_0 := cell_keep hb x1_0
    replace x1_1 := cell_keep hb x1_1
    replace HO1 := Lib.hid (HO1.out.below hb)
    have HBh12 := Lib.hid (HBh11.out.trans (hb.mono (by have := HBh11.out.size; omega)))
    clear hb
    refine wp_region_noPanic ?_
    refine wp_region_held_drew (S := fun w' => w'.cell? ⟨w.heap.size, 1, none⟩ = some (.int .i64 q)) (by kernel_rfl) ?_ (fun hHeld => ?_)
    · exact x0_1
    have hb : Below v12.heap.size v12 v12.drew := (Below.refl _ _).drew
    generalize hwn : v12.drew = v13 at *
    clear hwn
    have sz13 : v12.heap.size ≤ v13.heap.size := hb.size
    replace x1_f0 := fro_keep hb x1_0 x1_f0
    replace x1_f1 := fro_keep hb x1_1 x1_f1
    replace x0_0 := cell_keep hb x0_0
    replace x0_1 := cell_keep hb x0_1
    replace x1_0 := cell_keep hb x1_0
    replace x1_1 := cell_keep hb x1_1
    replace HO1 := Lib.hid (HO1.out.below hb)
    have HBh13 := Lib.hid (HBh12.out.trans (hb.mono (by have := HBh12.out.size; omega)))
    clear hb
    refine wpAnyH_take (i := 0) (v := ?_) rfl (by kernel_rfl) (by kernel_rfl) (by kernel_rfl) (fun _ _ _ h => h) (Or.inl ⟨by rfl, ?_⟩) (by assumption) ?_
    rotate_left
    · intro w9 hSw; (try dsimp only at hSw); go_simp; try with_reducible rfl
    try simp only [List.getElem_toArray, List.getElem_cons_succ, List.getElem_cons_zero, Act.put, List.setIfInBounds_toArray, List.set_cons_zero, List.set_cons_succ]
    refine wpAnyH_take (i := 1) (v := ?_) rfl (by kernel_rfl) (by kernel_rfl) (by kernel_rfl) (fun _ _ _ h => h) (Or.inl ⟨by rfl, ?_⟩) (by assumption) ?_
    rotate_left
    · intro w9 hSw; (try dsimp only at hSw); go_simp; try with_reducible rfl
    try simp only [List.getElem_toArray, List.getElem_cons_succ, List.getElem_cons_zero, Act.put, List.setIfInBounds_toArray, List.set_cons_zero, List.set_cons_succ]
    refine wpAnyH_take (i := 2) (v := ?_) rfl (by kernel_rfl) (by kernel_rfl) (by kernel_rfl) (fun _ _ _ h => h) (Or.inl ⟨by rfl, ?_⟩) (by assumption) ?_
    rotate_left
    · intro w9 hSw; (try dsimp only at hSw); go_simp; try with_reducible rfl
    try simp only [List.getElem_toArray, List.getElem_cons_succ, List.getElem_cons_zero, Act.put, List.setIfInBounds_toArray, List.set_cons_zero, List.set_cons_succ]
    refine wpAnyH_take (i := 3) (v := ?_) rfl (by kernel_rfl) (by kernel_rfl) (by kernel_rfl) (fun _ _ _ h => h) (Or.inl ⟨by rfl, ?_⟩) (by assumption) ?_
    rotate_left
    · intro w9 hSw; (try dsimp only at hSw); go_simp; try with_reducible rfl
    try simp only [List.getElem_toArray, List.getElem_cons_succ, List.getElem_cons_zero, Act.put, List.setIfInBounds_toArray, List.set_cons_zero, List.set_cons_succ]
    refine wpAnyH_take (i := 5) (v := ?_) rfl (by kernel_rfl) (by kernel_rfl) (by kernel_rfl) (fun _ _ _ h => h) (Or.inl ⟨by rfl, ?_⟩) (by assumption) ?_
    rotate_left
    · intro w9 hSw; (try dsimp only at hSw); go_simp; try with_reducible rfl
    try simp only [List.getElem_toArray, List.getElem_cons_succ, List.getElem_cons_zero, Act.put, List.setIfInBounds_toArray, List.set_cons_zero, List.set_cons_succ]
    refine wpAnyH_take (i := 6) (v := ?_) rfl (by kernel_rfl) (by kernel_rfl) (by kernel_rfl) (fun _ _ _ h => h) (Or.inl ⟨by rfl, ?_⟩) (by assumption) ?_
    rotate_left
    · intro w9 hSw; (try dsimp only at hSw); go_simp; try with_reducible rfl
    try simp only [List.getElem_toArray, List.getElem_cons_succ, List.getElem_cons_zero, Act.put, List.setIfInBounds_toArray, List.set_cons_zero, List.set_cons_succ]
    refine wpAnyH_ready (rs := [4]) (by kernel_rfl) (by simp) ?_
    refine AllReadyH.cons rfl (fun K hK => ?_) AllReadyH.nil
    clear hHeld
    go_simp
    refine (del_own HO1.out (by simp) hkj).mono ?_
    rintro e v15 ⟨rfl, ho, v14, hb, hg⟩
    clear HO1
    have HO2 := Lib.hid ho
    clear ho
    have sz14 : v13.heap.size ≤ v14.heap.size := hb.size
    replace x1_f0 := fro_keep hb x1_0 x1_f0
    replace x1_f1 := fro_keep hb x1_1 x1_f1
    replace x0_0 := cell_keep hb x0_0
    replace x0_1 := cell_keep hb x0_1
    replace x1_0 := cell_keep hb x1_0
    replace x1_1 := cell_keep hb x1_1
    have HBh14 := Lib.hid (HBh13.out.trans (hb.mono (by have := HBh13.out.size; omega)))
    clear hb
    have sz15 : v14.heap.size ≤ v15.heap.size := hg.size
    replace x1_f0 := fro_grow hg x1_0 x1_f0 (fun g e => by (have e2 : gg = g := by simpa using e); omega)
    replace x1_f1 := fro_grow hg x1_1 x1_f1 (fun g e => by (have e2 : gg = g := by simpa using e); omega)
    replace x0_0 := cell_grow hg x0_0 (fun g e => by (have e2 : gg = g := by simpa using e); omega)
    replace x0_1 := cell_grow hg x0_1 (fun g e => by (have e2 : gg = g := by simpa using e); omega)
    replace x1_0 := cell_grow hg x1_0 (fun g e => by (have e2 : gg = g := by simpa using e); omega)
    replace x1_1 := cell_grow hg x1_1 (fun g e => by (have e2 : gg = g := by simpa using e); omega)
    have HBh15 := Lib.hid (HBh14.out.grown hg (by have := HBh14.out.size; omega) (fun g e => by (have e2 : gg = g := by simpa using e); omega))
    clear hg
    rw [← HMA.out] at HO2
    refine hK.out _ _ ?_ (fun hHeld => ?_)
    · exact x0_1
    clear hK K
    try simp only [List.getElem_toArray, List.getElem_cons_succ, List.getElem_cons_zero, Act.put, List.setIfInBounds_toArray, List.set_cons_zero, List.set_cons_succ]
    refine wpAnyH_take (i := 7) (v := ?_) rfl (by kernel_rfl) (by kernel_rfl) (by kernel_rfl) (fun _ _ _ h => h) (Or.inl ⟨by rfl, ?_⟩) (by assumption) ?_
    rotate_left
    · intro w9 hSw; (try dsimp only at hSw); go_simp; try with_reducible rfl
    try simp only [List.getElem_toArray, List.getElem_cons_succ, List.getElem_cons_zero, Act.put, List.setIfInBounds_toArray, List.set_cons_zero, List.set_cons_succ]
    refine wpAnyH_ready (rs := [8]) (by kernel_rfl) (by simp) ?_
    refine AllReadyH.cons rfl (fun K hK => ?_) AllReadyH.nil
    clear hHeld
    go_simp
    have HK := fun wz hz => impl_kept_no (some ⟨gg, 0, none⟩) ms q1 q wz hz (by omega) HKEPT
    rw [hml] at HK
    refine (HK _ HO2.out.reads).mono ?_
    clear HK
    rintro e v16 ⟨rfl, hb⟩
    have sz16 : v15.heap.size ≤ v16.heap.size := hb.size
    replace x1_f0 := fro_keep hb x1_0 x1_f0
    replace x1_f1 := fro_keep hb x1_1 x1_f1
    replace x0_0 := cell_keep hb x0_0
    replace x0_1 := cell_keep hb x0_1
    replace x1_0 := cell_keep hb x1_0
    replace x1_1 := cell_keep hb x1_1
    replace HO2 := Lib.hid (HO2.out.below hb)
    have HBh16 := Lib.hid (HBh15.out.trans (hb.mono (by have := HBh15.out.size; omega)))
    clear hb
    refine hK.out _ _ ?_ (fun hHeld => ?_)
    · exact x0_1
    clear hK K
    try simp only [List.getElem_toArray, List.getElem_cons_succ, List.getElem_cons_zero, Act.put, List.setIfInBounds_toArray, List.set_cons_zero, List.set_cons_succ]
    refine wpAnyH_take (i := 9) (v := ?_) rfl (by kernel_rfl) (by kernel_rfl) (by kernel_rfl) (fun _ _ _ h => h) (Or.inl ⟨by rfl, ?_⟩) (by assumption) ?_
    rotate_left
    · intro w9 hSw; (try dsimp only at hSw); go_simp; try with_reducible rfl
    try simp only [List.getElem_toArray, List.getElem_cons_succ, List.getElem_cons_zero, Act.put, List.setIfInBounds_toArray, List.set_cons_zero, List.set_cons_succ]
    refine wpAnyH_take (i := 10) (v := ?_) rfl (by kernel_rfl) (by kernel_rfl) (by kernel_rfl) (fun _ _ _ h => h) (Or.inl ⟨by rfl, ?_⟩) (by assumption) ?_
    rotate_left
    · intro w9 hSw; (try dsimp only at hSw); go_simp; try with_reducible rfl
    try simp only [List.getElem_toArray, List.getElem_cons_succ, List.getElem_cons_zero, Act.put, List.setIfInBounds_toArray, List.set_cons_zero, List.set_cons_succ]
    refine wpAnyH_ready (rs := [11]) (by kernel_rfl) (by simp) ?_
    refine AllReadyH.cons rfl (fun K hK => ?_) AllReadyH.nil
    clear hHeld
    go_simp
    have hg : v16.grownBy ((v16.setCell ⟨w.heap.size + 1, 0, none⟩ (.slice none 0 0)).setCell ⟨w.heap.size + 1, 1, none⟩ (.int .i64 0)) (some (w.heap.size + 1)) := grown_trans (grown_set v16 (w.heap.size + 1) 0 (.slice none 0 0)) (grown_set _ (w.heap.size + 1) 1 (.int .i64 0))
    have nx0 : ((v16.setCell ⟨w.heap.size + 1, 0, none⟩ (.slice none 0 0)).setCell ⟨w.heap.size + 1, 1, none⟩ (.int .i64 0)).cell? ⟨w.heap.size + 1, 0, none⟩ = some (.slice none 0 0) := (World.cell?_setCell_other _ _ _ _ (by simp)).trans (World.cell?_setCell_same _ _ _ x1_0)
    have nf0 : ((v16.setCell ⟨w.heap.size + 1, 0, none⟩ (.slice none 0 0)).setCell ⟨w.heap.size + 1, 1, none⟩ (.int .i64 0)).frozen? ⟨w.heap.size + 1, 0, none⟩ = false := by simp only [World.frozen?_setCell]; exact x1_f0
    have nx1 : ((v16.setCell ⟨w.heap.size + 1, 0, none⟩ (.slice none 0 0)).setCell ⟨w.heap.size + 1, 1, none⟩ (.int .i64 0)).cell? ⟨w.heap.size + 1, 1, none⟩ = some (.int .i64 0) := World.cell?_setCell_same _ _ _ ((World.cell?_setCell_other _ _ _ _ (by simp)).trans x1_1)
    have nf1 : ((v16.setCell ⟨w.heap.size + 1, 0, none⟩ (.slice none 0 0)).setCell ⟨w.heap.size + 1, 1, none⟩ (.int .i64 0)).frozen? ⟨w.heap.size + 1, 1, none⟩ = false := by simp only [World.frozen?_setCell]; exact x1_f1
    clear x1_0 x1_f0 x1_1 x1_f1
    generalize hwn : ((v16.setCell ⟨w.heap.size + 1, 0, none⟩ (.slice none 0 0)).setCell ⟨w.heap.size + 1, 1, none⟩ (.int .i64 0)) = v17 at *
    clear hwn
    have sz17 : v16.heap.size ≤ v17.heap.size := hg.size
    replace x0_0 := cell_grow hg x0_0 (fun g e => by (have e2 : w.heap.size + 1 = g := by simpa using e); omega)
    replace x0_1 := cell_grow hg x0_1 (fun g e => by (have e2 : w.heap.size + 1 = g := by simpa using e); omega)
    replace HO2 := Lib.hid (own_grow hg HO2.out (fun g e => by (have e2 : w.heap.size + 1 = g := by simpa using e); omega))
    have HBh17 := Lib.hid (HBh16.out.grown hg (by have := HBh16.out.size; omega) (fun g e => by (have e2 : w.heap.size + 1 = g := by simpa using e); omega))
    have x1_0 := nx0
    have x1_f0 := nf0
    have x1_1 := nx1
    have x1_f1 := nf1
    clear hg nx0 nf0 nx1 nf1
    refine hK.out _ _ ?_ (fun hHeld => ?_)
    · exact x0_1
    clear hK K
    try simp only [List.getElem_toArray, List.getElem_cons_succ, List.getElem_cons_zero, Act.put, List.setIfInBounds_toArray, List.set_cons_zero, List.set_cons_succ]
    refine wpAnyH_take (i := 12) (v := ?_) rfl (by kernel_rfl) (by kernel_rfl) (by kernel_rfl) (fun _ _ _ h => h) (Or.inl ⟨by rfl, ?_⟩) (by assumption) ?_
    rotate_left
    · intro w9 hSw; (try dsimp only at hSw); go_simp; try with_reducible rfl
    try simp only [List.getElem_toArray, List.getElem_cons_succ, List.getElem_cons_zero, Act.put, List.setIfInBounds_toArray, List.set_cons_zero, List.set_cons_succ]
    refine wpAnyH_done (by kernel_rfl) ?_ _
    refine NoPanic.normal ?_
    clear hHeld
    go_wp2_with fail
    refine bodyPost_ret (v := .tuple #[.agg #[.slice none 0 0, .int .i64 0], .bool false]) (by simp [results, Try.results31, go_sem, x1_0, x1_1]) rfl ⟨_, rfl, ?_, HBh17.out⟩
    exact OwnI.nil _ _ _
  refine AllReady.cons rfl (fun K hK => ?_) AllReady.nil
  go_simp
  refine hK _ _ ?_
  clear hK K
  try simp only [List.getElem_toArray, List.getElem_cons_succ, List.getElem_cons_zero, Act.put, List.setIfInBounds_toArray, List.set_cons_zero, List.set_cons_succ]
  refine wpAny_ready (rs := [3]) (by kernel_rfl) (by simp) ?_
  refine AllReady.cons rfl (fun K hK => ?_) AllReady.nil
  go_simp
  refine hK _ _ ?_
  clear hK K
  try simp only [List.getElem_toArray, List.getElem_cons_succ, List.getElem_cons_zero, Act.put, List.setIfInBounds_toArray, List.set_cons_zero, List.set_cons_succ]
  refine wpAny_take (i := 8) (v := ?_) rfl (by kernel_rfl) (by kernel_rfl) (by kernel_rfl) (fun _ _ _ h => h) (Or.inl ⟨by rfl, ?_⟩) ?_
  rotate_left
  · intro w; go_simp; try with_reducible rfl
  try simp only [List.getElem_toArray, List.getElem_cons_succ, List.getElem_cons_zero, Act.put, List.setIfInBounds_toArray, List.set_cons_zero, List.set_cons_succ]
  refine wpAny_take (i := 9) (v := ?_) rfl (by kernel_rfl) (by kernel_rfl) (by kernel_rfl) (fun _ _ _ h => h) (Or.inl ⟨by rfl, ?_⟩) ?_
  rotate_left
  · intro w; go_simp; try with_reducible rfl
  try simp only [List.getElem_toArray, List.getElem_cons_succ, List.getElem_cons_zero, Act.put, List.setIfInBounds_toArray, List.set_cons_zero, List.set_cons_succ]
  refine wpAny_ready (rs := [10]) (by kernel_rfl) (by simp) ?_
  refine AllReady.cons rfl (fun K hK => ?_) AllReady.nil
  go_simp
  refine hK _ _ ?_
  clear hK K
  try simp only [List.getElem_toArray, List.getElem_cons_succ, List.getElem_cons_zero, Act.put, List.setIfInBounds_toArray, List.set_cons_zero, List.set_cons_succ]
  refine wpAny_done (by kernel_rfl) ?_ _
  go_wp2_with fail
  have HO1 := Lib.hid (own_put HO.out (by simp) ki (x + y))
  clear HO
  have hg : w3.grownBy (w3.setCell ⟨gg, ki, none⟩ (.int .i64 (x + y))) (some gg) := grown_set _ _ _ _
  clear hci hcj hfi
  generalize hwn : (w3.setCell ⟨gg, ki, none⟩ (.int .i64 (x + y))) = v11 at *
  clear hwn
  have sz11 : w3.heap.size ≤ v11.heap.size := hg.size
  replace x1_f0 := fro_grow hg x1_0 x1_f0 (fun g e => by (have e2 : gg = g := by simpa using e); omega)
  replace x1_f1 := fro_grow hg x1_1 x1_f1 (fun g e => by (have e2 : gg = g := by simpa using e); omega)
  replace x0_0 := cell_grow hg x0_0 (fun g e => by (have e2 : gg = g := by simpa using e); omega)
  replace x0_1 := cell_grow hg x0_1 (fun g e => by (have e2 : gg = g := by simpa using e); omega)
  replace x1_0 := cell_grow hg x1_0 (fun g e => by (have e2 : gg = g := by simpa using e); omega)
  replace x1_1 := cell_grow hg x1_1 (fun g e => by (have e2 : gg = g := by simpa using e); omega)
  have HBh11 := Lib.hid (HB3.out.grown hg (by have := HB3.out.size; omega) (fun g e => by (have e2 : gg = g := by simpa using e); omega))
  clear hg
  have hb : Below v11.heap.size v11 v11.drew := (Below.refl _ _).drew
  generalize hwn : v11.drew = v12 at *
  clear hwn
  have sz12 : v11.heap.size ≤ v12.heap.size := hb.size
  replace x1_f0 := fro_keep hb x1_0 x1_f0
  replace x1_f1 := fro_keep hb x1_1 x1_f1
  replace x0_0 := cell_keep hb x0_0
  replace x0_1 := cell_keep hb x0_1
  replace x1_0 := cell_keep hb x1_0
  replace x1_1 := cell_keep hb x1_1
  replace HO1 := Lib.hid (HO1.out.below hb)
  have HBh12 := Lib.hid (HBh11.out.trans (hb.mono (by have := HBh11.out.size; omega)))
  clear hb
  refine wp_region_noPanic ?_
  refine wp_region_held_drew (S := fun w' => w'.cell? ⟨w.heap.size, 1, none⟩ = some (.int .i64 q)) (by kernel_rfl) ?_ (fun hHeld => ?_)
  · exact x0_1
  have hb : Below v12.heap.size v12 v12.drew := (Below.refl _ _).drew
  generalize hwn : v12.drew = v13 at *
  clear hwn
  have sz13 : v12.heap.size ≤ v13.heap.size := hb.size
  replace x1_f0 := fro_keep hb x1_0 x1_f0
  replace x1_f1 := fro_keep hb x1_1 x1_f1
  replace x0_0 := cell_keep hb x0_0
  replace x0_1 := cell_keep hb x0_1
  replace x1_0 := cell_keep hb x1_0
  replace x1_1 := cell_keep hb x1_1
  replace HO1 := Lib.hid (HO1.out.below hb)
  have HBh13 := Lib.hid (HBh12.out.trans (hb.mono (by have := HBh12.out.size; omega)))
  clear hb
  refine wpAnyH_take (i := 0) (v := ?_) rfl (by kernel_rfl) (by kernel_rfl) (by kernel_rfl) (fun _ _ _ h => h) (Or.inl ⟨by rfl, ?_⟩) (by assumption) ?_
  rotate_left
  · intro w9 hSw; (try dsimp only at hSw); go_simp; try with_reducible rfl
  try simp only [List.getElem_toArray, List.getElem_cons_succ, List.getElem_cons_zero, Act.put, List.setIfInBounds_toArray, List.set_cons_zero, List.set_cons_succ]
  refine wpAnyH_take (i := 1) (v := ?_) rfl (by kernel_rfl) (by kernel_rfl) (by kernel_rfl) (fun _ _ _ h => h) (Or.inl ⟨by rfl, ?_⟩) (by assumption) ?_
  rotate_left
  · intro w9 hSw; (try dsimp only at hSw); go_simp; try with_reducible rfl
  try simp only [List.getElem_toArray, List.getElem_cons_succ, List.getElem_cons_zero, Act.put, List.setIfInBounds_toArray, List.set_cons_zero, List.set_cons_succ]
  refine wpAnyH_take (i := 2) (v := ?_) rfl (by kernel_rfl) (by kernel_rfl) (by kernel_rfl) (fun _ _ _ h => h) (Or.inl ⟨by rfl, ?_⟩) (by assumption) ?_
  rotate_left
  · intro w9 hSw; (try dsimp only at hSw); go_simp; try with_reducible rfl
  try simp only [List.getElem_toArray, List.getElem_cons_succ, List.getElem_cons_zero, Act.put, List.setIfInBounds_toArray, List.set_cons_zero, List.set_cons_succ]
  refine wpAnyH_take (i := 3) (v := ?_) rfl (by kernel_rfl) (by kernel_rfl) (by kernel_rfl) (fun _ _ _ h => h) (Or.inl ⟨by rfl, ?_⟩) (by assumption) ?_
  rotate_left
  · intro w9 hSw; (try dsimp only at hSw); go_simp; try with_reducible rfl
  try simp only [List.getElem_toArray, List.getElem_cons_succ, List.getElem_cons_zero, Act.put, List.setIfInBounds_toArray, List.set_cons_zero, List.set_cons_succ]
  refine wpAnyH_take (i := 5) (v := ?_) rfl (by kernel_rfl) (by kernel_rfl) (by kernel_rfl) (fun _ _ _ h => h) (Or.inl ⟨by rfl, ?_⟩) (by assumption) ?_
  rotate_left
  · intro w9 hSw; (try dsimp only at hSw); go_simp; try with_reducible rfl
  try simp only [List.getElem_toArray, List.getElem_cons_succ, List.getElem_cons_zero, Act.put, List.setIfInBounds_toArray, List.set_cons_zero, List.set_cons_succ]
  refine wpAnyH_take (i := 6) (v := ?_) rfl (by kernel_rfl) (by kernel_rfl) (by kernel_rfl) (fun _ _ _ h => h) (Or.inl ⟨by rfl, ?_⟩) (by assumption) ?_
  rotate_left
  · intro w9 hSw; (try dsimp only at hSw); go_simp; try with_reducible rfl
  try simp only [List.getElem_toArray, List.getElem_cons_succ, List.getElem_cons_zero, Act.put, List.setIfInBounds_toArray, List.set_cons_zero, List.set_cons_succ]
  refine wpAnyH_ready (rs := [4]) (by kernel_rfl) (by simp) ?_
  refine AllReadyH.cons rfl (fun K hK => ?_) AllReadyH.nil
  clear hHeld
  go_simp
  refine (del_own HO1.out (by simp) hkj).mono ?_
  rintro e v15 ⟨rfl, ho, v14, hb, hg⟩
  clear HO1
  have HO2 := Lib.hid ho
  clear ho
  have sz14 : v13.heap.size ≤ v14.heap.size := hb.size
  replace x1_f0 := fro_keep hb x1_0 x1_f0
  replace x1_f1 := fro_keep hb x1_1 x1_f1
  replace x0_0 := cell_keep hb x0_0
  replace x0_1 := cell_keep hb x0_1
  replace x1_0 := cell_keep hb x1_0
  replace x1_1 := cell_keep hb x1_1
  have HBh14 := Lib.hid (HBh13.out.trans (hb.mono (by have := HBh13.out.size; omega)))
  clear hb
  have sz15 : v14.heap.size ≤ v15.heap.size := hg.size
  replace x1_f0 := fro_grow hg x1_0 x1_f0 (fun g e => by (have e2 : gg = g := by simpa using e); omega)
  replace x1_f1 := fro_grow hg x1_1 x1_f1 (fun g e => by (have e2 : gg = g := by simpa using e); omega)
  replace x0_0 := cell_grow hg x0_0 (fun g e => by (have e2 : gg = g := by simpa using e); omega)
  replace x0_1 := cell_grow hg x0_1 (fun g e => by (have e2 : gg = g := by simpa using e); omega)
  replace x1_0 := cell_grow hg x1_0 (fun g e => by (have e2 : gg = g := by simpa using e); omega)
  replace x1_1 := cell_grow hg x1_1 (fun g e => by (have e2 : gg = g := by simpa using e); omega)
  have HBh15 := Lib.hid (HBh14.out.grown hg (by have := HBh14.out.size; omega) (fun g e => by (have e2 : gg = g := by simpa using e); omega))
  clear hg
  rw [← HMA.out] at HO2
  refine hK.out _ _ ?_ (fun hHeld => ?_)
  · exact x0_1
  clear hK K
  try simp only [List.getElem_toArray, List.getElem_cons_succ, List.getElem_cons_zero, Act.put, List.setIfInBounds_toArray, List.set_cons_zero, List.set_cons_succ]
  refine wpAnyH_take (i := 7) (v := ?_) rfl (by kernel_rfl) (by kernel_rfl) (by kernel_rfl) (fun _ _ _ h => h) (Or.inl ⟨by rfl, ?_⟩) (by assumption) ?_
  rotate_left
  · intro w9 hSw; (try dsimp only at hSw); go_simp; try with_reducible rfl
  try simp only [List.getElem_toArray, List.getElem_cons_succ, List.getElem_cons_zero, Act.put, List.setIfInBounds_toArray, List.set_cons_zero, List.set_cons_succ]
  refine wpAnyH_ready (rs := [8]) (by kernel_rfl) (by simp) ?_
  refine AllReadyH.cons rfl (fun K hK => ?_) AllReadyH.nil
  clear hHeld
  go_simp
  have HK := fun wz hz => impl_kept_no (some ⟨gg, 0, none⟩) ms q1 q wz hz (by omega) HKEPT
  rw [hml] at HK
  refine (HK _ HO2.out.reads).mono ?_
  clear HK
  rintro e v16 ⟨rfl, hb⟩
  have sz16 : v15.heap.size ≤ v16.heap.size := hb.size
  replace x1_f0 := fro_keep hb x1_0 x1_f0
  replace x1_f1 := fro_keep hb x1_1 x1_f1
  replace x0_0 := cell_keep hb x0_0
  replace x0_1 := cell_keep hb x0_1
  replace x1_0 := cell_keep hb x1_0
  replace x1_1 := cell_keep hb x1_1
  replace HO2 := Lib.hid (HO2.out.below hb)
  have HBh16 := Lib.hid (HBh15.out.trans (hb.mono (by have := HBh15.out.size; omega)))
  clear hb
  refine hK.out _ _ ?_ (fun hHeld => ?_)
  · exact x0_1
  clear hK K
  try simp only [List.getElem_toArray, List.getElem_cons_succ, List.getElem_cons_zero, Act.put, List.setIfInBounds_toArray, List.set_cons_zero, List.set_cons_succ]
  refine wpAnyH_take (i := 9) (v := ?_) rfl (by kernel_rfl) (by kernel_rfl) (by kernel_rfl) (fun _ _ _ h => h) (Or.inl ⟨by rfl, ?_⟩) (by assumption) ?_
  rotate_left
  · intro w9 hSw; (try dsimp only at hSw); go_simp; try with_reducible rfl
  try simp only [List.getElem_toArray, List.getElem_cons_succ, List.getElem_cons_zero, Act.put, List.setIfInBounds_toArray, List.set_cons_zero, List.set_cons_succ]
  refine wpAnyH_take (i := 10) (v := ?_) rfl (by kernel_rfl) (by kernel_rfl) (by kernel_rfl) (fun _ _ _ h => h) (Or.inl ⟨by rfl, ?_⟩) (by assumption) ?_
  rotate_left
  · intro w9 hSw; (try dsimp only at hSw); go_simp; try with_reducible rfl
  try simp only [List.getElem_toArray, List.getElem_cons_succ, List.getElem_cons_zero, Act.put, List.setIfInBounds_toArray, List.set_cons_zero, List.set_cons_succ]
  refine wpAnyH_ready (rs := [11]) (by kernel_rfl) (by simp) ?_
  refine AllReadyH.cons rfl (fun K hK => ?_) AllReadyH.nil
  clear hHeld
  go_simp
  have hg : v16.grownBy ((v16.setCell ⟨w.heap.size + 1, 0, none⟩ (.slice none 0 0)).setCell ⟨w.heap.size + 1, 1, none⟩ (.int .i64 0)) (some (w.heap.size + 1)) := grown_trans (grown_set v16 (w.heap.size + 1) 0 (.slice none 0 0)) (grown_set _ (w.heap.size + 1) 1 (.int .i64 0))
  have nx0 : ((v16.setCell ⟨w.heap.size + 1, 0, none⟩ (.slice none 0 0)).setCell ⟨w.heap.size + 1, 1, none⟩ (.int .i64 0)).cell? ⟨w.heap.size + 1, 0, none⟩ = some (.slice none 0 0) := (World.cell?_setCell_other _ _ _ _ (by simp)).trans (World.cell?_setCell_same _ _ _ x1_0)
  have nf0 : ((v16.setCell ⟨w.heap.size + 1, 0, none⟩ (.slice none 0 0)).setCell ⟨w.heap.size + 1, 1, none⟩ (.int .i64 0)).frozen? ⟨w.heap.size + 1, 0, none⟩ = false := by simp only [World.frozen?_setCell]; exact x1_f0
  have nx1 : ((v16.setCell ⟨w.heap.size + 1, 0, none⟩ (.slice none 0 0)).setCell ⟨w.heap.size + 1, 1, none⟩ (.int .i64 0)).cell? ⟨w.heap.size + 1, 1, none⟩ = some (.int .i64 0) := World.cell?_setCell_same _ _ _ ((World.cell?_setCell_other _ _ _ _ (by simp)).trans x1_1)
  have nf1 : ((v16.setCell ⟨w.heap.size + 1, 0, none⟩ (.slice none 0 0)).setCell ⟨w.heap.size + 1, 1, none⟩ (.int .i64 0)).frozen? ⟨w.heap.size + 1, 1, none⟩ = false := by simp only [World.frozen?_setCell]; exact x1_f1
  clear x1_0 x1_f0 x1_1 x1_f1
  generalize hwn : ((v16.setCell ⟨w.heap.size + 1, 0, none⟩ (.slice none 0 0)).setCell ⟨w.heap.size + 1, 1, none⟩ (.int .i64 0)) = v17 at *
  clear hwn
  have sz17 : v16.heap.size ≤ v17.heap.size := hg.size
  replace x0_0 := cell_grow hg x0_0 (fun g e => by (have e2 : w.heap.size + 1 = g := by simpa using e); omega)
  replace x0_1 := cell_grow hg x0_1 (fun g e => by (have e2 : w.heap.size + 1 = g := by simpa using e); omega)
  replace HO2 := Lib.hid (own_grow hg HO2.out (fun g e => by (have e2 : w.heap.size + 1 = g := by simpa using e); omega))
  have HBh17 := Lib.hid (HBh16.out.grown hg (by have := HBh16.out.size; omega) (fun g e => by (have e2 : w.heap.size + 1 = g := by simpa using e); omega))
  have x1_0 := nx0
  have x1_f0 := nf0
  have x1_1 := nx1
  have x1_f1 := nf1
  clear hg nx0 nf0 nx1 nf1
  refine hK.out _ _ ?_ (fun hHeld => ?_)
  · exact x0_1
  clear hK K
  try simp only [List.getElem_toArray, List.getElem_cons_succ, List.getElem_cons_zero, Act.put, List.setIfInBounds_toArray, List.set_cons_zero, List.set_cons_succ]
  refine wpAnyH_take (i := 12) (v := ?_) rfl (by kernel_rfl) (by kernel_rfl) (by kernel_rfl) (fun _ _ _ h => h) (Or.inl ⟨by rfl, ?_⟩) (by assumption) ?_
  rotate_left
  · intro w9 hSw; (try dsimp only at hSw); go_simp; try with_reducible rfl
  try simp only [List.getElem_toArray, List.getElem_cons_succ, List.getElem_cons_zero, Act.put, List.setIfInBounds_toArray, List.set_cons_zero, List.set_cons_succ]
  refine wpAnyH_done (by kernel_rfl) ?_ _
  refine NoPanic.normal ?_
  clear hHeld
  go_wp2_with fail
  refine bodyPost_ret (v := .tuple #[.agg #[.slice none 0 0, .int .i64 0], .bool false]) (by simp [results, Try.results31, go_sem, x1_0, x1_1]) rfl ⟨_, rfl, ?_, HBh17.out⟩
  exact OwnI.nil _ _ _
end Go.Proofs.Ytcklehfcpengoaa.mergei
