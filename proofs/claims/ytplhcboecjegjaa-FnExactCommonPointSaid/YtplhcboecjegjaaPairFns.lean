/- Lists of pairs of integers: in memory, and the walks of the laws' functions on them; no condition. -/
import Derived.Test.YtplhcboecjegjaaIntFns
import Derived.Test.YtplhcboecjegjaaOwnG
import Derived.Test.YtplhcboecjegjaaNums
import Derived.Deep.QuietTactic
import Derived.Deep.RegionHeld3
import Derived.Deep.DrawnRows
import Derived.Deep.AppendLies
import Derived.Laws.Rows
namespace Go.Proofs.Ytplhcboecjegjaa.own
open Go.RowKit
set_option linter.unusedVariables false
def flatP (ps : List (Int × Int)) : List Int := ps.flatMap fun x => [x.1, x.2]
theorem flat_length (ps : List (Int × Int)) : (flatP ps).length = ps.length * 2 := by
  induction ps with
  | nil => rfl
  | cons x ps ih => unfold flatP at *; rw [List.flatMap_cons, List.length_append, ih, List.length_cons]; simp; omega
theorem flat_at (ps : List (Int × Int)) (k : Nat) (h : k < ps.length) : (flatP ps)[k * 2]? = some (ps.getD k (0, 0)).1 ∧ (flatP ps)[k * 2 + 1]? = some (ps.getD k (0, 0)).2 := by
  induction ps generalizing k with
  | nil => simp at h
  | cons x ps ih =>
    cases k with
    | zero => exact ⟨rfl, rfl⟩
    | succ k =>
      have := ih k (by simpa using h)
      rw [show (k + 1) * 2 = k * 2 + 2 by omega]
      exact this
theorem flat_snoc (ps : List (Int × Int)) (x : Int × Int) : flatP (ps ++ [x]) = flatP ps ++ [x.1, x.2] := by unfold flatP; rw [List.flatMap_append]; rfl
/-- A slice of pairs in its own block, from lo on and below hi. -/
def OwnA (lo hi : Nat) (w : World) (v : Value) (ps : List (Int × Int)) : Prop :=
  w.ownsRow lo 131 2 v ps.length ((flatP ps).map (Value.int .i64)) ∧ ∀ g, v.ownBlock = some g → g < hi
section
variable {lo hi lo' hi' : Nat} {w w' : World} {v : Value} {ps : List (Int × Int)}
theorem OwnA.lt (h : OwnA lo hi w v ps) {g : Nat} (hg : v.ownBlock = some g) : lo ≤ g ∧ g < hi ∧ g < w.heap.size := ⟨(h.1.lt g hg).1, h.2 g hg, (h.1.lt g hg).2⟩
theorem OwnA.mono (h : OwnA lo hi w v ps) (h1 : lo' ≤ lo) (h2 : hi ≤ hi') : OwnA lo' hi' w v ps :=
  ⟨ownsRow_base h.1 (fun g hg => Nat.le_trans h1 (h.lt hg).1), fun g hg => Nat.lt_of_lt_of_le (h.2 g hg) h2⟩
theorem OwnA.block (h : OwnA lo hi w v ps) (hb : ∀ g, v.ownBlock = some g → w'.heap[g]? = w.heap[g]?) : OwnA lo hi w' v ps := ⟨ownsRow_block h.1 hb, h.2⟩
theorem OwnA.only (h : OwnA lo hi w v ps) (ho : Only lo' hi' w w') (hd : hi ≤ lo' ∨ hi' ≤ lo) : OwnA lo hi w' v ps := h.block fun g hg => by have := h.lt hg; exact ho.block g this.2.2 (by omega)
theorem OwnA.below (h : OwnA lo hi w v ps) (hb : Below w.heap.size w w') : OwnA lo hi w' v ps := h.block fun g hg => hb.block g (h.lt hg).2.2
theorem OwnA.of (h : w.ownsRow lo 131 2 v ps.length ((flatP ps).map (Value.int .i64))) : OwnA lo w.heap.size w v ps := ⟨h, fun g hg => (h.lt g hg).2⟩
end
/-- The slice with this address reads as these pairs. -/
def ReadsA (w : World) (a : Option Addr) (ps : List (Int × Int)) : Prop :=
  ps = [] ∨ ∃ b off, a = some ⟨b, off, none⟩ ∧ b < w.heap.size ∧ ∀ k, k < ps.length → w.cell? ⟨b, off + k * 2, none⟩ = some (.int .i64 (ps.getD k (0, 0)).1) ∧ w.cell? ⟨b, off + k * 2 + 1, none⟩ = some (.int .i64 (ps.getD k (0, 0)).2)
theorem ReadsA.at {w : World} {a : Option Addr} {ps : List (Int × Int)} (h : ReadsA w a ps) {k : Nat} (hk : k < ps.length) : ∃ b off, a = some ⟨b, off, none⟩ ∧ b < w.heap.size ∧ w.cell? ⟨b, off + k * 2, none⟩ = some (.int .i64 (ps.getD k (0, 0)).1) ∧ w.cell? ⟨b, off + k * 2 + 1, none⟩ = some (.int .i64 (ps.getD k (0, 0)).2) := by
  rcases h with rfl | ⟨b, off, e, hb, hc⟩
  · simp at hk
  · exact ⟨b, off, e, hb, hc k hk⟩
theorem ReadsA.below {w w' : World} {a : Option Addr} {ps : List (Int × Int)} (h : ReadsA w a ps) (hb : Below w.heap.size w w') : ReadsA w' a ps := by
  rcases h with rfl | ⟨b, off, e, hlt, hc⟩
  · exact .inl rfl
  · exact .inr ⟨b, off, e, Nat.lt_of_lt_of_le hlt hb.size, fun k hk => ⟨cell_below hb (hc k hk).1 hlt, cell_below hb (hc k hk).2 hlt⟩⟩
theorem OwnA.slice {lo hi : Nat} {w : World} {v : Value} {ps : List (Int × Int)} (h : OwnA lo hi w v ps) : ∃ a c, v = .slice a ps.length c ∧ ReadsA w a ps ∧ ps.length ≤ c ∧ ps.length ≤ maxLen := by
  rcases h.1.2 with ⟨rfl, h0⟩ | ⟨g, cap, cur, rfl, hl, hh, hnc, hmx, hs, ht⟩
  · have hz : ps = [] := List.length_eq_zero_iff.1 h0
    subst hz
    exact ⟨none, 0, rfl, .inl rfl, Nat.le_refl _, Nat.zero_le _⟩
  · refine ⟨_, cap, rfl, .inr ⟨g, 0, rfl, (h.lt (g := g) rfl).2.2, fun k hk => ?_⟩, hnc, Nat.le_trans hnc hmx⟩
    rw [Nat.zero_add, h.1.cellAt (k * 2) (by omega), h.1.cellAt (k * 2 + 1) (by omega), List.getElem?_map, List.getElem?_map, (flat_at ps k hk).1, (flat_at ps k hk).2]
    exact ⟨rfl, rfl⟩
theorem OwnA.reads {lo hi : Nat} {w : World} {a : Option Addr} {n c : Nat} {ps : List (Int × Int)} (h : OwnA lo hi w (.slice a n c) ps) : ReadsA w a ps := by
  obtain ⟨a', c', e, hr, _⟩ := h.slice
  cases e
  exact hr
def RetAB (ps : List (Int × Int)) (ok : Bool) (w : World) (e : Ending) (w' : World) : Prop := ∃ v, e = .returned (.tuple #[v, .bool ok]) ∧ OwnA w.heap.size w'.heap.size w' v ps ∧ Below w.heap.size w w'
end Go.Proofs.Ytplhcboecjegjaa.own
namespace Go.Proofs.Ytplhcboecjegjaa.pairfns
open Go.RowKit own
set_option linter.unusedVariables false
set_option linter.unusedSimpArgs false
attribute [local go_sem ↓] Go.wp_at_zero Go.wp_at_succ
theorem cell_keep {W W' : World} (h : Below W.heap.size W W') {b o : Nat} {x : Value} (hx : W.cell? ⟨b, o, none⟩ = some x) : W'.cell? ⟨b, o, none⟩ = some x :=
  cell_below h hx (block_lt_of_cell (a := ⟨b, o, none⟩) hx)
theorem fro_keep {W W' : World} (h : Below W.heap.size W W') {b o o' : Nat} {x : Value} (hx : W.cell? ⟨b, o', none⟩ = some x) (hf : W.frozen? ⟨b, o, none⟩ = false) : W'.frozen? ⟨b, o, none⟩ = false :=
  fro_below h hf (block_lt_of_cell (a := ⟨b, o', none⟩) hx)
theorem cell_grow {W W' : World} {row : Option Nat} (h : W.grownBy W' row) {b o : Nat} {x : Value} (hx : W.cell? ⟨b, o, none⟩ = some x) (hne : ∀ g, row = some g → b ≠ g) : W'.cell? ⟨b, o, none⟩ = some x :=
  (World.cell?_of_block (h.block b (block_lt_of_cell (a := ⟨b, o, none⟩) hx) (fun e => hne b e.symm rfl))).trans hx
theorem fro_grow {W W' : World} {row : Option Nat} (h : W.grownBy W' row) {b o o' : Nat} {x : Value} (hx : W.cell? ⟨b, o', none⟩ = some x) (hf : W.frozen? ⟨b, o, none⟩ = false) (hne : ∀ g, row = some g → b ≠ g) : W'.frozen? ⟨b, o, none⟩ = false :=
  (World.frozen?_of_block (a := ⟨b, o, none⟩) (h.block b (block_lt_of_cell (a := ⟨b, o', none⟩) hx) (fun e => hne b e.symm rfl))).trans hf
theorem own_grow {W W' : World} {row : Option Nat} (h : W.grownBy W' row) {lo hi : Nat} {v : Value} {zs : List Int} (ho : OwnI lo hi W v zs) (hne : ∀ g, row = some g → g < lo ∨ hi ≤ g) : OwnI lo hi W' v zs :=
  ho.block fun g hg => h.block g (ho.lt hg).2.2 (fun e => by have := hne g e.symm; have := ho.lt hg; omega)
theorem cell_set2 {W : World} {b o b' o' : Nat} {x : Value} (hx : W.cell? ⟨b, o, none⟩ = some x) (hne : b ≠ b') (u : Value) : (W.setCell ⟨b', o', none⟩ u).cell? ⟨b, o, none⟩ = some x :=
  (World.cell?_of_block (Below.heap_setCell _ _ _ _ (by show b ≠ b'; exact hne))).trans hx
theorem grown_set (W : World) (b o : Nat) (u : Value) : W.grownBy (W.setCell ⟨b, o, none⟩ u) (some b) :=
  ⟨rfl, rfl, rfl, by rw [size_set]; exact Nat.le_refl _, fun k hk hne => Below.heap_setCell _ _ _ _ (fun e => hne (by rw [e]))⟩
theorem grown_trans {W W1 W2 : World} {row : Option Nat} (h : W.grownBy W1 row) (k : W1.grownBy W2 row) : W.grownBy W2 row :=
  ⟨k.os.trans h.os, k.tape.trans h.tape, k.output.trans h.output, Nat.le_trans h.size k.size, fun i hi hn => (k.block i (Nat.lt_of_lt_of_le hi h.size) hn).trans (h.block i hi hn)⟩
set_option maxRecDepth 100000 in
set_option maxHeartbeats 4000000 in
theorem eq_two (x y : Int) (w : World) :
    Calls Try.prog 119 #[.agg #[.int .i64 x, .int .i64 y], .agg #[.int .i64 x, .int .i64 y]] w (fun e w' => e = .returned (.bool true) ∧ Below w.heap.size w w') := by
  go_enter Try.func119, Try.ntmps119
  have a0 : ((w.alloc (.cells #[.int .i64 x, .int .i64 y] 131)).alloc (.cells #[.int .i64 x, .int .i64 y] 131)).cell? ⟨w.heap.size, 0, none⟩ = some (.int .i64 x) := cell_old _ (cell_new _ _ _ rfl rfl)
  have a1 : ((w.alloc (.cells #[.int .i64 x, .int .i64 y] 131)).alloc (.cells #[.int .i64 x, .int .i64 y] 131)).cell? ⟨w.heap.size, 1, none⟩ = some (.int .i64 y) := cell_old _ (cell_new _ _ _ rfl rfl)
  have b0 : ((w.alloc (.cells #[.int .i64 x, .int .i64 y] 131)).alloc (.cells #[.int .i64 x, .int .i64 y] 131)).cell? ⟨w.heap.size + 1, 0, none⟩ = some (.int .i64 x) := cell_new _ _ _ (by simp) rfl
  have b1 : ((w.alloc (.cells #[.int .i64 x, .int .i64 y] 131)).alloc (.cells #[.int .i64 x, .int .i64 y] 131)).cell? ⟨w.heap.size + 1, 1, none⟩ = some (.int .i64 y) := cell_new _ _ _ (by simp) rfl
  have HB := Lib.hid (show Below w.heap.size w ((w.alloc (.cells #[.int .i64 x, .int .i64 y] 131)).alloc (.cells #[.int .i64 x, .int .i64 y] 131)) from (below_alloc _ _).alloc (by simp) _)
  go_wp2_with fail
  generalize (w.alloc (.cells #[.int .i64 x, .int .i64 y] 131)).alloc (.cells #[.int .i64 x, .int .i64 y] 131) = w1 at *
  go_loopw [5] (fun i wr => ∃ k m : Nat, k ≤ 2 ∧ i = .int .i64 k ∧ wr = w1.drewN m) (fun i _ => 2 - (intOf i).toNat)
  case atStart => exact ⟨0, 0, by omega, rfl, rfl⟩
  case round =>
    obtain ⟨k, m, hk, rfl, rfl⟩ := hrel
    have HM := Lib.hid (show ∀ n, ∃ q, (w1.drewN m).drewN n = w1.drewN q from fun n => ⟨_, World.drewN_drewN _ _ _⟩)
    have HBd := Lib.hid (HB.out.trans ((ints.below_drewN (Below.refl w1.heap.size w1) m).mono HB.out.size))
    replace a0 : (w1.drewN m).cell? ⟨w.heap.size, 0, none⟩ = some (.int .i64 x) := a0
    replace a1 : (w1.drewN m).cell? ⟨w.heap.size, 1, none⟩ = some (.int .i64 y) := a1
    replace b0 : (w1.drewN m).cell? ⟨w.heap.size + 1, 0, none⟩ = some (.int .i64 x) := b0
    replace b1 : (w1.drewN m).cell? ⟨w.heap.size + 1, 1, none⟩ = some (.int .i64 y) := b1
    have h3 : k = 0 ∨ k = 1 ∨ k = 2 := by omega
    generalize w1.drewN m = wm at *
    rcases h3 with rfl | rfl | rfl
    · go_wp2_with fail
      go_quiet (fail)
      go_wp2_with fail
      go_roundw
      case rel => obtain ⟨q, hq⟩ := HM.out _; exact ⟨1, q, by omega, by go_num, hq⟩
      case measure => simp [intOf]
    · go_wp2_with fail
      go_quiet (fail)
      go_wp2_with fail
      go_roundw
      case rel => obtain ⟨q, hq⟩ := HM.out _; exact ⟨2, q, by omega, by go_num, hq⟩
      case measure => simp [intOf]
    · go_wp2_with fail
      go_ret
      exact ⟨rfl, HBd.out⟩
set_option maxRecDepth 100000 in
set_option maxHeartbeats 4000000 in
theorem eq_same (a a' : Option Addr) (ps : List (Int × Int)) (c c' : Nat) (w : World) (hr : ReadsA w a ps) (hr' : ReadsA w a' ps) (hn : ps.length ≤ 9223372036854775807) :
    Calls Try.prog 55 #[.slice a ps.length c, .slice a' ps.length c'] w (fun e w' => e = .returned (.bool true) ∧ Below w.heap.size w w') := by
  go_enter Try.func55, Try.ntmps55
  go_wp2_with fail
  go_loopw [5] (fun i wr => ∃ k : Nat, k ≤ ps.length ∧ i = .int .i64 k ∧ Below w.heap.size w wr) (fun i _ => ps.length - (intOf i).toNat)
  case atStart => exact ⟨0, Nat.zero_le _, rfl, Below.refl _ _⟩
  case round =>
    obtain ⟨k, hk, rfl, hbel⟩ := hrel
    have HB := Lib.hid hbel
    by_cases hlt : k < ps.length
    · obtain ⟨b, off, rfl, hb, c0, c1⟩ := (hr.below hbel).at hlt
      obtain ⟨b', off', rfl, hb', d0, d1⟩ := (hr'.below hbel).at hlt
      have i1 : (0 : Int) ≤ (k : Int) := by omega
      have i2 : (k : Int) < (ps.length : Int) := by omega
      clear hbel hb hb'
      generalize (ps.getD k (0, 0)).1 = x at *
      generalize (ps.getD k (0, 0)).2 = y at *
      go_wp2_with fail
      refine wp_region_noPanic ?_
      refine wp_region_held_drew (S := fun w' => w'.cell? ⟨b, off + k * 2, none⟩ = some (.int .i64 x) ∧ w'.cell? ⟨b, off + k * 2 + 1, none⟩ = some (.int .i64 y) ∧ w'.cell? ⟨b', off' + k * 2, none⟩ = some (.int .i64 x) ∧ w'.cell? ⟨b', off' + k * 2 + 1, none⟩ = some (.int .i64 y)) (by kernel_rfl) ?_ (fun hHeld => ?_)
      · exact ⟨c0, c1, d0, d1⟩
      have hb : Below wr.heap.size wr wr.drew := (Below.refl _ _).drew
      generalize hwn : wr.drew = v11 at *
      clear hwn
      have sz11 : wr.heap.size ≤ v11.heap.size := hb.size
      replace c0 := cell_keep hb c0
      replace c1 := cell_keep hb c1
      replace d0 := cell_keep hb d0
      replace d1 := cell_keep hb d1
      have HBh11 := Lib.hid (HB.out.trans (hb.mono (by have := HB.out.size; omega)))
      clear hb
      refine wpAnyH_take (i := 0) (v := ?_) rfl (by kernel_rfl) (by kernel_rfl) (by kernel_rfl) (fun _ _ _ h => h) (Or.inl ⟨by rfl, ?_⟩) (by assumption) ?_
      rotate_left
      · intro w9 hSw; (try dsimp only at hSw); go_simp; try with_reducible rfl
      try simp only [List.getElem_toArray, List.getElem_cons_succ, List.getElem_cons_zero, Act.put, List.setIfInBounds_toArray, List.set_cons_zero, List.set_cons_succ]
      refine wpAnyH_take (i := 1) (v := ?_) rfl (by kernel_rfl) (by kernel_rfl) (by kernel_rfl) (fun _ _ _ h => h) (Or.inl ⟨by rfl, ?_⟩) (by assumption) ?_
      rotate_left
      · intro w9 hSw; (try dsimp only at hSw); go_simp; try with_reducible rfl
      try simp only [List.getElem_toArray, List.getElem_cons_succ, List.getElem_cons_zero, Act.put, List.setIfInBounds_toArray, List.set_cons_zero, List.set_cons_succ]
      refine wpAnyH_take (i := 2) (v := ?_) rfl (by kernel_rfl) (by kernel_rfl) (by kernel_rfl) (fun _ _ _ h => h) (Or.inl ⟨by rfl, ?_⟩) (by assumption) ?_
      rotate_left
      · intro w9 hSw; (try dsimp only at hSw); go_simp; try with_reducible rfl
      try simp only [List.getElem_toArray, List.getElem_cons_succ, List.getElem_cons_zero, Act.put, List.setIfInBounds_toArray, List.set_cons_zero, List.set_cons_succ]
      refine wpAnyH_take (i := 3) (v := ?_) rfl (by kernel_rfl) (by kernel_rfl) (by kernel_rfl) (fun _ _ _ h => h) (Or.inl ⟨by rfl, ?_⟩) (by assumption) ?_
      rotate_left
      · intro w9 hSw; (try dsimp only at hSw); go_simp; try with_reducible rfl
      try simp only [List.getElem_toArray, List.getElem_cons_succ, List.getElem_cons_zero, Act.put, List.setIfInBounds_toArray, List.set_cons_zero, List.set_cons_succ]
      refine wpAnyH_take (i := 4) (v := ?_) rfl (by kernel_rfl) (by kernel_rfl) (by kernel_rfl) (fun _ _ _ h => h) (Or.inl ⟨by rfl, ?_⟩) (by assumption) ?_
      rotate_left
      · intro w9 hSw; (try dsimp only at hSw); go_simp; try with_reducible rfl
      try simp only [List.getElem_toArray, List.getElem_cons_succ, List.getElem_cons_zero, Act.put, List.setIfInBounds_toArray, List.set_cons_zero, List.set_cons_succ]
      refine wpAnyH_take (i := 5) (v := ?_) rfl (by kernel_rfl) (by kernel_rfl) (by kernel_rfl) (fun _ _ _ h => h) (Or.inl ⟨by rfl, ?_⟩) (by assumption) ?_
      rotate_left
      · intro w9 hSw; (try dsimp only at hSw); go_simp; try with_reducible rfl
      try simp only [List.getElem_toArray, List.getElem_cons_succ, List.getElem_cons_zero, Act.put, List.setIfInBounds_toArray, List.set_cons_zero, List.set_cons_succ]
      refine wpAnyH_take (i := 6) (v := ?_) rfl (by kernel_rfl) (by kernel_rfl) (by kernel_rfl) (fun _ _ _ h => h) (Or.inl ⟨by rfl, ?_⟩) (by assumption) ?_
      rotate_left
      · intro w9 hSw; (try dsimp only at hSw); go_simp; try with_reducible rfl
      try simp only [List.getElem_toArray, List.getElem_cons_succ, List.getElem_cons_zero, Act.put, List.setIfInBounds_toArray, List.set_cons_zero, List.set_cons_succ]
      refine wpAnyH_take (i := 7) (v := ?_) rfl (by kernel_rfl) (by kernel_rfl) (by kernel_rfl) (fun _ _ _ h => h) (Or.inl ⟨by rfl, ?_⟩) (by assumption) ?_
      rotate_left
      · intro w9 hSw; (try dsimp only at hSw); go_simp; try with_reducible rfl
      try simp only [List.getElem_toArray, List.getElem_cons_succ, List.getElem_cons_zero, Act.put, List.setIfInBounds_toArray, List.set_cons_zero, List.set_cons_succ]
      refine wpAnyH_ready (rs := [8]) (by kernel_rfl) (by simp) ?_
      refine AllReadyH.cons rfl (fun K hK => ?_) AllReadyH.nil
      clear hHeld
      go_simp
      refine (eq_two x y v11).mono ?_
      rintro e v12 ⟨rfl, hb⟩
      have sz12 : v11.heap.size ≤ v12.heap.size := hb.size
      replace c0 := cell_keep hb c0
      replace c1 := cell_keep hb c1
      replace d0 := cell_keep hb d0
      replace d1 := cell_keep hb d1
      have HBh12 := Lib.hid (HBh11.out.trans (hb.mono (by have := HBh11.out.size; omega)))
      clear hb
      refine hK.out _ _ ?_ (fun hHeld => ?_)
      · exact ⟨c0, c1, d0, d1⟩
      clear hK K
      try simp only [List.getElem_toArray, List.getElem_cons_succ, List.getElem_cons_zero, Act.put, List.setIfInBounds_toArray, List.set_cons_zero, List.set_cons_succ]
      refine wpAnyH_take (i := 9) (v := ?_) rfl (by kernel_rfl) (by kernel_rfl) (by kernel_rfl) (fun _ _ _ h => h) (Or.inl ⟨by rfl, ?_⟩) (by assumption) ?_
      rotate_left
      · intro w9 hSw; (try dsimp only at hSw); go_simp; try with_reducible rfl
      try simp only [List.getElem_toArray, List.getElem_cons_succ, List.getElem_cons_zero, Act.put, List.setIfInBounds_toArray, List.set_cons_zero, List.set_cons_succ]
      refine wpAnyH_done (by kernel_rfl) ?_ _
      refine NoPanic.normal ?_
      clear hHeld
      go_wp2_with fail
      go_roundw
      case rel => exact ⟨k + 1, by omega, by go_num, HBh12.out⟩
      case measure => simp [intOf]; omega
    · clear hbel
      go_wp2_with fail
      go_ret
      exact ⟨rfl, HB.out⟩
/-- The marks from a number on. -/
def marks (K n : Nat) : List (Int × Int) := (List.range n).map fun i => (((K + i * 2 : Nat) : Int), ((K + i * 2 + 1 : Nat) : Int))
theorem marks_length (K n : Nat) : (marks K n).length = n := by simp [marks]
theorem marks_getD (K n k : Nat) (h : k < n) : (marks K n).getD k (0, 0) = (((K + k * 2 : Nat) : Int), ((K + k * 2 + 1 : Nat) : Int)) := by
  rw [List.getD_eq_getElem?_getD]; simp [marks, h]
theorem marks_flat (K n : Nat) : flatP (marks K n) = intfns.marks K (n * 2) := by
  induction n with
  | zero => rfl
  | succ n ih =>
    have e1 : marks K (n + 1) = marks K n ++ [(((K + n * 2 : Nat) : Int), ((K + n * 2 + 1 : Nat) : Int))] := by simp [marks, List.range_succ]
    have e2 : intfns.marks K ((n + 1) * 2) = intfns.marks K (n * 2) ++ [((K + n * 2 : Nat) : Int), ((K + (n * 2 + 1) : Nat) : Int)] := by
      rw [show (n + 1) * 2 = n * 2 + 1 + 1 by omega]
      simp [intfns.marks, List.range_succ]
    rw [e1, e2, flat_snoc, ih]
    rfl
set_option maxRecDepth 100000 in
set_option maxHeartbeats 4000000 in
theorem held_any (a : Option Addr) (c n K : Nat) (w : World) (hr : ReadsA w a (marks K n)) (h2 : K + n * 2 ≤ 4611686018427387904) :
    Calls Try.prog 57 #[.slice a n c, .int .i64 K] w (fun e w' => e = .returned (.int .i64 (K + n * 2 : Nat)) ∧ Below w.heap.size w w') := by
  go_enter Try.func57, Try.ntmps57
  go_wp2_with fail
  go_loopw [1, 5] (fun q i wr => ∃ k : Nat, k ≤ n ∧ i = .int .i64 k ∧ q = .int .i64 (K + k * 2 : Nat) ∧ wr = w) (fun _ i _ => n - (intOf i).toNat)
  case atStart => exact ⟨0, Nat.zero_le _, rfl, rfl, rfl⟩
  case round =>
    obtain ⟨k, hk, rfl, rfl, rfl⟩ := hrel
    by_cases hlt : k < n
    · obtain ⟨g, off, rfl, hg, c0, c1⟩ := hr.at (k := k) (by rw [marks_length]; exact hlt)
      rw [marks_getD K n k hlt] at c0 c1
      have i1 : (0 : Int) ≤ (k : Int) := by omega
      have i2 : (k : Int) < (n : Int) := by omega
      have e0 : ((K + k * 2 : Nat) : Int) + 1 = ((K + k * 2 + 1 : Nat) : Int) := by omega
      have e1 : ((K + k * 2 + 1 : Nat) : Int) + 1 = ((K + (k + 1) * 2 : Nat) : Int) := by omega
      have b0 : K + (k + 1) * 2 ≤ 4611686018427387904 := by omega
      clear hg
      go_wp2_with fail
      go_loopw [1, 6] (fun q i wr2 => ∃ j : Nat, j ≤ 2 ∧ i = .int .i64 j ∧ q = .int .i64 (K + k * 2 + j : Nat) ∧ wr2 = wr) (fun _ i _ => 2 - (intOf i).toNat)
      case atStart => exact ⟨0, by omega, rfl, rfl, rfl⟩
      case round =>
        obtain ⟨j, hj, rfl, rfl, rfl⟩ := hrel
        have h3 : j = 0 ∨ j = 1 ∨ j = 2 := by omega
        rcases h3 with rfl | rfl | rfl
        · go_wp2_with fail
          go_roundw
          case rel => exact ⟨1, by omega, by go_num, by go_num, by first | rfl | trivial⟩
          case measure => simp [intOf]
        · go_wp2_with fail
          go_roundw
          case rel => exact ⟨2, by omega, by go_num, by go_num, by first | rfl | trivial⟩
          case measure => simp [intOf]
        · go_wp2_with fail
          go_roundw
          case rel => exact ⟨k + 1, by omega, by go_num, by first | go_num | (congr 1; omega), by first | rfl | trivial⟩
          case measure => simp [intOf]; omega
    · obtain rfl : k = n := by omega
      go_wp2_with fail
      go_ret
      exact ⟨rfl, Below.refl _ _⟩
set_option maxRecDepth 100000 in
set_option maxHeartbeats 4000000 in
theorem mark_row (base g cap : Nat) (ps : List (Int × Int)) (K : Nat) (w : World) (hown : w.ownsRow base 131 2 (.slice (some ⟨g, 0, none⟩) ps.length cap) ps.length ((flatP ps).map (Value.int .i64))) (h2 : K + ps.length * 2 ≤ 4611686018427387904) :
    Calls Try.prog 56 #[.slice (some ⟨g, 0, none⟩) ps.length cap, .int .i64 K] w (fun e w' => e = .returned (.int .i64 (K + ps.length * 2 : Nat)) ∧ w'.ownsRow base 131 2 (.slice (some ⟨g, 0, none⟩) ps.length cap) ps.length ((intfns.marks K (ps.length * 2)).map (Value.int .i64)) ∧ w.grownBy w' (some g)) := by
  obtain ⟨xs, hxs⟩ : ∃ xs, xs = (flatP ps).map (Value.int .i64) := ⟨_, rfl⟩
  have hxl : xs.length = ps.length * 2 := by rw [hxs, List.length_map, flat_length]
  obtain ⟨n, hn⟩ : ∃ n, ps.length = n := ⟨_, rfl⟩
  rw [← hxs] at hown
  have HStr := Lib.hid (show ∀ k, k < n * 2 → ∃ s : Int, xs[k]? = some (.int .i64 s) from fun k hk => by
    rw [hxs, List.getElem?_map, List.getElem?_eq_getElem (by rw [flat_length]; omega)]
    exact ⟨_, rfl⟩)
  clear hxs
  rw [hn] at hown hxl h2 ⊢
  clear hn
  go_enter Try.func56, Try.ntmps56
  go_wp2_with fail
  go_loopw [1, 5] (fun c i wr => ∃ k : Nat, k ≤ n ∧ i = .int .i64 k ∧ c = .int .i64 (K + k * 2 : Nat) ∧ wr.ownsRow base 131 2 (.slice (some ⟨g, 0, none⟩) n cap) n (intfns.part K (k * 2) xs) ∧ w.grownBy wr (some g)) (fun _ i _ => n - (intOf i).toNat)
  case atStart => exact ⟨0, Nat.zero_le _, rfl, rfl, hown, World.grownBy.refl _ _⟩
  case round =>
    obtain ⟨k, hk, rfl, rfl, ho, hg⟩ := hrel
    have HG := Lib.hid hg
    have HO := Lib.hid ho
    clear hg hown
    by_cases hlt : k < n
    · have i1 : (0 : Int) ≤ (k : Int) := by omega
      have i2 : (k : Int) < (n : Int) := by omega
      have b0 : K + (k + 1) * 2 ≤ 4611686018427387904 := by omega
      clear ho
      go_wp2_with fail
      go_loopw [1, 6] (fun c i wr2 => ∃ j : Nat, j ≤ 2 ∧ i = .int .i64 j ∧ c = .int .i64 (K + k * 2 + j : Nat) ∧ wr2.ownsRow base 131 2 (.slice (some ⟨g, 0, none⟩) n cap) n (intfns.part K (k * 2 + j) xs) ∧ w.grownBy wr2 (some g)) (fun _ i _ => 2 - (intOf i).toNat)
      case atStart => exact ⟨0, by omega, rfl, rfl, HO.out, HG.out⟩
      case round =>
        clear HO HG
        obtain ⟨j, hj, rfl, rfl, ho, hg⟩ := hrel
        have HG := Lib.hid hg
        by_cases hj2 : j < 2
        · obtain ⟨s0, hs0⟩ := HStr.out (k * 2 + j) (by omega)
          have hcell : wr.cell? ⟨g, k * 2 + j, none⟩ = some (.int .i64 s0) := by rw [ho.cellAt (k * 2 + j) (by omega), intfns.part_at K (n * 2) (k * 2 + j) xs hxl (by omega), hs0]
          have hfro := ho.frozenAt (k * 2 + j)
          have hst := ho.stored (k * 2 + j) (.int .i64 ((K + (k * 2 + j) : Nat) : Int))
          rw [intfns.part_succ K (n * 2) (k * 2 + j) xs hxl (by omega)] at hst
          have HST := Lib.hid hst
          have e1 : ((K + k * 2 + j : Nat) : Int) = ((K + (k * 2 + j) : Nat) : Int) := by omega
          have j1 : (0 : Int) ≤ (j : Int) := by omega
          have j2 : (j : Int) < 2 := by omega
          rw [e1]
          clear hst ho hs0 hg e1
          go_wp2_with fail
          go_roundw
          case rel => exact ⟨j + 1, by omega, by go_num, by go_num, by rw [show k * 2 + (j + 1) = k * 2 + j + 1 by omega]; simpa using HST.out.1, by simpa using World.grownBy.trans HG.out HST.out.2⟩
          case measure => simp [intOf]; omega
        · obtain rfl : j = 2 := by omega
          have HO := Lib.hid (show wr.ownsRow base 131 2 (.slice (some ⟨g, 0, none⟩) n cap) n (intfns.part K ((k + 1) * 2) xs) by rw [show (k + 1) * 2 = k * 2 + 2 by omega]; exact ho)
          clear ho hg
          go_wp2_with fail
          go_roundw
          case rel => exact ⟨k + 1, by omega, by go_num, by first | go_num | (congr 1; omega), HO.out, HG.out⟩
          case measure => simp [intOf]; omega
    · obtain rfl : k = n := by omega
      have HO2 := Lib.hid (show wr.ownsRow base 131 2 (.slice (some ⟨g, 0, none⟩) k cap) k ((intfns.marks K (k * 2)).map (Value.int .i64)) by
        have e : intfns.part K (k * 2) xs = (intfns.marks K (k * 2)).map (Value.int .i64) := by unfold intfns.part; rw [List.drop_of_length_le (by omega)]; simp
        rw [← e]; exact ho)
      clear ho HO
      go_wp2_with fail
      go_ret
      exact ⟨rfl, HO2.out, HG.out⟩
set_option maxRecDepth 100000 in
set_option maxHeartbeats 4000000 in
theorem mark_any (lo hi : Nat) (a : Option Addr) (c : Nat) (ps : List (Int × Int)) (K : Nat) (w : World) (h : OwnA lo hi w (.slice a ps.length c) ps) (h2 : K + ps.length * 2 ≤ 4611686018427387904) :
    Calls Try.prog 56 #[.slice a ps.length c, .int .i64 K] w (fun e w' => e = .returned (.int .i64 (K + ps.length * 2 : Nat)) ∧ OwnA lo hi w' (.slice a ps.length c) (marks K ps.length) ∧ Only lo hi w w') := by
  have hc := h
  rcases h.1.2 with ⟨hv, h0⟩ | ⟨g, cap, cur, hv, hl, hh, hr⟩
  · have hz : ps = [] := List.length_eq_zero_iff.1 h0
    subst hz
    simp only [List.length_nil] at hv ⊢
    cases hv
    go_enter Try.func56, Try.ntmps56
    go_wp2_with fail
    refine wp_loop_rounds 1 ?_
    rw [rounds_succ]
    go_wp2_with fail
    go_ret
    exact ⟨by simp, hc, Only.refl _ _ _⟩
  · cases hv
    refine (mark_row lo g c ps K w h.1 h2).mono ?_
    rintro e w' ⟨rfl, ho, hg⟩
    refine ⟨rfl, ⟨by rw [marks_length, marks_flat]; exact ho, hc.2⟩, Only.of_grown hg fun g' e => ?_⟩
    obtain rfl : g = g' := by simpa using e
    exact ⟨(hc.lt (g := g) rfl).1, (hc.lt (g := g) rfl).2.1⟩
end Go.Proofs.Ytplhcboecjegjaa.pairfns
