/- The walks of a fraction without common divisors. -/
import Derived.Test.YtplhcboecjegjaaGcd
namespace Go.Proofs.Ytplhcboecjegjaa.cutw
open Go.RowKit own pp nums mk most gcdw
set_option linter.unusedVariables false
attribute [local go_sem ↓] Go.wp_at_zero Go.wp_at_succ
set_option linter.unusedSimpArgs false

theorem cell_keep {W W' : World} (h : Below W.heap.size W W') {b o : Nat} {x : Value} (hx : W.cell? ⟨b, o, none⟩ = some x) : W'.cell? ⟨b, o, none⟩ = some x :=
  cell_below h hx (block_lt_of_cell (a := ⟨b, o, none⟩) hx)
theorem fro_keep {W W' : World} (h : Below W.heap.size W W') {b o o' : Nat} {x : Value} (hx : W.cell? ⟨b, o', none⟩ = some x) (hf : W.frozen? ⟨b, o, none⟩ = false) : W'.frozen? ⟨b, o, none⟩ = false :=
  fro_below h hf (block_lt_of_cell (a := ⟨b, o', none⟩) hx)
theorem cell_grow {W W' : World} {row : Option Nat} (h : W.grownBy W' row) {b o : Nat} {x : Value} (hx : W.cell? ⟨b, o, none⟩ = some x) (hne : ∀ g, row = some g → b ≠ g) : W'.cell? ⟨b, o, none⟩ = some x :=
  (World.cell?_of_block (h.block b (block_lt_of_cell (a := ⟨b, o, none⟩) hx) (fun e => hne b e.symm rfl))).trans hx
theorem fro_grow {W W' : World} {row : Option Nat} (h : W.grownBy W' row) {b o o' : Nat} {x : Value} (hx : W.cell? ⟨b, o', none⟩ = some x) (hf : W.frozen? ⟨b, o, none⟩ = false) (hne : ∀ g, row = some g → b ≠ g) : W'.frozen? ⟨b, o, none⟩ = false :=
  (World.frozen?_of_block (a := ⟨b, o, none⟩) (h.block b (block_lt_of_cell (a := ⟨b, o', none⟩) hx) (fun e => hne b e.symm rfl))).trans hf
theorem own_grow {W W' : World} {row : Option Nat} (h : W.grownBy W' row) {lo hi : Nat} {v : Value} {zs : List Int} (ho : OwnI lo hi W v zs) (hne : ∀ g, row = some g → g < lo ∨ hi ≤ g) : OwnI lo hi W' v zs :=
  ho.block fun g hg => h.block g (ho.lt hg).2.2 (fun e => by have := hne g e.symm; have := ho.lt hg; omega)
theorem cell_set2 {W : World} {b o b' o' : Nat} {x : Value} (hx : W.cell? ⟨b, o, none⟩ = some x) (hne : b ≠ b') (u : Value) : (W.setCell ⟨b', o', none⟩ u).cell? ⟨b, o, none⟩ = some x :=
  (World.cell?_of_block (Below.heap_setCell _ _ _ _ (by show b ≠ b'; exact hne))).trans hx
theorem grown_set (W : World) (b o : Nat) (u : Value) : W.grownBy (W.setCell ⟨b, o, none⟩ u) (some b) :=
  ⟨rfl, rfl, rfl, by rw [size_set]; exact Nat.le_refl _, fun k hk hne => Below.heap_setCell _ _ _ _ (fun e => hne (by rw [e]))⟩
theorem grown_trans {W W1 W2 : World} {row : Option Nat} (h : W.grownBy W1 row) (k : W1.grownBy W2 row) : W.grownBy W2 row :=
  ⟨k.os.trans h.os, k.tape.trans h.tape, k.output.trans h.output, Nat.le_trans h.size k.size, fun i hi hn => (k.block i (Nat.lt_of_lt_of_le hi h.size) hn).trans (h.block i hi hn)⟩
theorem own_narrow {W : World} {lo gg cap : Nat} {l : List Int} {z : Int} (h : W.ownsRow lo 3 1 (.slice (some ⟨gg, 0, none⟩) (l.length + 1) cap) (l.length + 1) (l.map (Value.int .i64) ++ [.int .i64 z])) : OwnI gg (gg + 1) W (.slice (some ⟨gg, 0, none⟩) (l.length + 1) cap) (l ++ [z]) := by
  have h2 : W.ownsRow lo 3 1 (.slice (some ⟨gg, 0, none⟩) (l.length + 1) cap) (l ++ [z]).length ((l ++ [z]).map (Value.int .i64)) := by simpa [List.map_append] using h
  exact ⟨ownsRow_base h2 (fun g e => by obtain rfl : gg = g := (by simpa [Value.ownBlock] using e); exact Nat.le_refl _), fun g e => by obtain rfl : gg = g := (by simpa [Value.ownBlock] using e); omega⟩
theorem own_put {W : World} {lo hi gg n cap : Nat} {l : List Int} (h : OwnI lo hi W (.slice (some ⟨gg, 0, none⟩) n cap) l) (hn : n = l.length) (k : Nat) (z : Int) : OwnI lo hi (W.setCell ⟨gg, k, none⟩ (.int .i64 z)) (.slice (some ⟨gg, 0, none⟩) n cap) (l.set k z) := by
  subst hn
  have := (h.1.stored k (.int .i64 z)).1
  rw [← List.map_set] at this
  exact ⟨by rw [List.length_set]; exact this, h.2⟩
theorem own_cell {W : World} {lo hi gg n cap : Nat} {l : List Int} (h : OwnI lo hi W (.slice (some ⟨gg, 0, none⟩) n cap) l) (hn : n = l.length) (k : Nat) (hk : k < l.length) : W.cell? ⟨gg, k, none⟩ = some (.int .i64 (l.getD k 0)) := by
  subst hn
  rw [h.1.cellAt k (by omega), List.getElem?_map, List.getElem?_eq_getElem hk, List.getD_eq_getElem?_getD, List.getElem?_eq_getElem hk]; rfl
theorem own_fro {W : World} {lo hi gg n cap : Nat} {l : List Int} (h : OwnI lo hi W (.slice (some ⟨gg, 0, none⟩) n cap) l) (hn : n = l.length) (k : Nat) : W.frozen? ⟨gg, k, none⟩ = false := by
  subst hn
  exact h.1.frozenAt k
set_option maxRecDepth 100000 in
set_option maxHeartbeats 4000000 in
theorem spec_cut (a : Int) (b : Nat) (w : World) (hb : 0 < b) (h1 : -1000000000000 ≤ a) (h2 : a ≤ 1000000000000) (h3 : b ≤ 1000000000000) :
    Calls Try.prog 115 #[.int .i64 a, .int .i64 b] w (fun e w' => e = .returned (.agg #[.int .i64 (cutP a b).1, .int .i64 (cutP a b).2]) ∧ Below w.heap.size w w') := by
  have HMx := Lib.hid (most_any a (-a))
  have HGc := Lib.hid (fun W => spec_gcd a.natAbs b W (by omega) (by omega))
  have HMA := Lib.hid (max_abs a)
  have hgp := gcd_pos (x := a.natAbs) hb
  have hq1 := tdiv_bd (g := Nat.gcd a.natAbs b) 1000000000000 h1 h2
  have hq2 := tdiv_bd (a := (b : Int)) (g := Nat.gcd a.natAbs b) 1000000000000 (by omega) (by omega)
  have HC := Lib.hid (show cutP a b = (Int.tdiv a (Nat.gcd a.natAbs b : Nat), Int.tdiv (b : Int) (Nat.gcd a.natAbs b : Nat)) from rfl)
  have HC1 : (cutP a b).1 = Int.tdiv a (Nat.gcd a.natAbs b : Nat) := rfl
  have HC2 : (cutP a b).2 = (b : Int) / ((Nat.gcd a.natAbs b : Nat) : Int) := Eq.trans (show (cutP a b).2 = Int.tdiv (b : Int) ((Nat.gcd a.natAbs b : Nat) : Int) from rfl) (Int.tdiv_eq_ediv_of_nonneg (Int.natCast_nonneg _))
  rw [HC1, HC2]
  clear HC1 HC2
  rw [HMA.out] at HMx
  clear HC
  generalize Nat.gcd a.natAbs b = G at *
  have e0 : IntKind.i64.wrap (-a) = -a := IntWalk.i64_in _ (by omega)
  go_enter Try.func115, Try.ntmps115
  go_wp2_with fail
  have x0_0 : (w.alloc (.cells #[.int .i64 0, .int .i64 0] 131)).cell? ⟨w.heap.size, 0, none⟩ = some (.int .i64 0) := cell_new _ _ _ (by simp) rfl
  have x0_1 : (w.alloc (.cells #[.int .i64 0, .int .i64 0] 131)).cell? ⟨w.heap.size, 1, none⟩ = some (.int .i64 0) := cell_new _ _ _ (by simp) rfl
  have f0_0 : (w.alloc (.cells #[.int .i64 0, .int .i64 0] 131)).frozen? ⟨w.heap.size, 0, none⟩ = false := fro_new _ _ _ (by simp)
  have f0_1 : (w.alloc (.cells #[.int .i64 0, .int .i64 0] 131)).frozen? ⟨w.heap.size, 1, none⟩ = false := fro_new _ _ _ (by simp)
  have HB0 := Lib.hid (below_alloc w (.cells #[.int .i64 0, .int .i64 0] 131))
  have s0 : w.heap.size + 1 ≤ (w.alloc (.cells #[.int .i64 0, .int .i64 0] 131)).heap.size := by simp
  generalize hw : (w.alloc (.cells #[.int .i64 0, .int .i64 0] 131)) = w0 at *
  clear hw
  have n0_0 : w.heap.size < w0.heap.size := by omega
  refine (HMx.out _).mono ?_
  rintro e w' ⟨rfl, hww⟩
  rw [hww]
  go_wp2_with fail
  refine (HGc.out _).mono ?_
  rintro e w' ⟨rfl, m, rfl⟩
  have bx_0 : (w0.drewN m).cell? ⟨w.heap.size, 0, none⟩ = some (.int .i64 0) := x0_0
  have bx_1 : (w0.drewN m).cell? ⟨w.heap.size, 1, none⟩ = some (.int .i64 0) := x0_1
  have bx_f0 : (w0.drewN m).frozen? ⟨w.heap.size, 0, none⟩ = false := f0_0
  have bx_f1 : (w0.drewN m).frozen? ⟨w.heap.size, 1, none⟩ = false := f0_1
  have HB1 := Lib.hid (HB0.out.trans ((ints.below_drewN (Below.refl w0.heap.size w0) m).mono (by omega)))
  clear x0_0 x0_1 f0_0 f0_1
  have hg0 : ¬ (G = 0) := by omega
  generalize w0.drewN m = w1 at *
  go_wp2_with fail
  have e1 : IntKind.i64.wrap (Int.tdiv a (G : Int)) = Int.tdiv a (G : Int) := IntWalk.i64_in _ (by omega)
  have e3 : Int.tdiv (b : Int) (G : Int) = (b : Int) / (G : Int) := Int.tdiv_eq_ediv_of_nonneg (by omega)
  have e2 : IntKind.i64.wrap ((b : Int) / (G : Int)) = (b : Int) / (G : Int) := by rw [← e3]; exact IntWalk.i64_in _ (by omega)
  have HE3 := Lib.hid e3
  clear e3
  refine wp_region_noPanic ?_
  refine wp_region_held_drew (S := fun w' => True) (by kernel_rfl) ?_ (fun hHeld => ?_)
  · exact trivial
  have hb : Below w1.heap.size w1 w1.drew := (Below.refl _ _).drew
  generalize hwn : w1.drew = v11 at *
  clear hwn
  have sz11 : w1.heap.size ≤ v11.heap.size := hb.size
  replace bx_f0 := fro_keep hb bx_0 bx_f0
  replace bx_f1 := fro_keep hb bx_1 bx_f1
  replace bx_0 := cell_keep hb bx_0
  replace bx_1 := cell_keep hb bx_1
  have HBh11 := Lib.hid (HB1.out.trans (hb.mono (by have := HB1.out.size; omega)))
  clear hb
  refine wpAnyH_take (i := 0) (v := ?_) rfl (by kernel_rfl) (by kernel_rfl) (by kernel_rfl) (fun _ _ _ h => h) (Or.inl ⟨by rfl, ?_⟩) (by assumption) ?_
  rotate_left
  · intro w9 hSw; (try dsimp only at hSw); go_simp; try with_reducible rfl
  try simp only [List.getElem_toArray, List.getElem_cons_succ, List.getElem_cons_zero, Act.put, List.setIfInBounds_toArray, List.set_cons_zero, List.set_cons_succ]
  refine wpAnyH_take (i := 1) (v := ?_) rfl (by kernel_rfl) (by kernel_rfl) (by kernel_rfl) (fun _ _ _ h => h) (Or.inl ⟨by rfl, ?_⟩) (by assumption) ?_
  rotate_left
  · intro w9 hSw; (try dsimp only at hSw); go_simp; try with_reducible rfl
  try simp only [List.getElem_toArray, List.getElem_cons_succ, List.getElem_cons_zero, Act.put, List.setIfInBounds_toArray, List.set_cons_zero, List.set_cons_succ]
  refine wpAnyH_take (i := 2) (v := ?_) rfl (by kernel_rfl) (by kernel_rfl) (by kernel_rfl) (fun _ _ _ h => h) (Or.inl ⟨by rfl, ?_⟩) (by assumption) ?_
  rotate_left
  · intro w9 hSw; (try dsimp only at hSw); go_simp; try with_reducible rfl
  try simp only [List.getElem_toArray, List.getElem_cons_succ, List.getElem_cons_zero, Act.put, List.setIfInBounds_toArray, List.set_cons_zero, List.set_cons_succ]
  refine wpAnyH_take (i := 3) (v := ?_) rfl (by kernel_rfl) (by kernel_rfl) (by kernel_rfl) (fun _ _ _ h => h) (Or.inl ⟨by rfl, ?_⟩) (by assumption) ?_
  rotate_left
  · intro w9 hSw; (try dsimp only at hSw); go_simp; try with_reducible rfl
  try simp only [List.getElem_toArray, List.getElem_cons_succ, List.getElem_cons_zero, Act.put, List.setIfInBounds_toArray, List.set_cons_zero, List.set_cons_succ]
  refine wpAnyH_take (i := 4) (v := ?_) rfl (by kernel_rfl) (by kernel_rfl) (by kernel_rfl) (fun _ _ _ h => h) (Or.inl ⟨by rfl, ?_⟩) (by assumption) ?_
  rotate_left
  · intro w9 hSw; (try dsimp only at hSw); go_simp; try with_reducible rfl
  try simp only [List.getElem_toArray, List.getElem_cons_succ, List.getElem_cons_zero, Act.put, List.setIfInBounds_toArray, List.set_cons_zero, List.set_cons_succ]
  refine wpAnyH_take (i := 5) (v := ?_) rfl (by kernel_rfl) (by kernel_rfl) (by kernel_rfl) (fun _ _ _ h => h) (Or.inl ⟨by rfl, ?_⟩) (by assumption) ?_
  rotate_left
  · intro w9 hSw; (try dsimp only at hSw); go_simp; try with_reducible rfl
  try simp only [List.getElem_toArray, List.getElem_cons_succ, List.getElem_cons_zero, Act.put, List.setIfInBounds_toArray, List.set_cons_zero, List.set_cons_succ]
  refine wpAnyH_take (i := 6) (v := ?_) rfl (by kernel_rfl) (by kernel_rfl) (by kernel_rfl) (fun _ _ _ h => h) (Or.inl ⟨by rfl, ?_⟩) (by assumption) ?_
  rotate_left
  · intro w9 hSw; (try dsimp only at hSw); go_simp; try with_reducible rfl
  try simp only [List.getElem_toArray, List.getElem_cons_succ, List.getElem_cons_zero, Act.put, List.setIfInBounds_toArray, List.set_cons_zero, List.set_cons_succ]
  refine wpAnyH_ready (rs := [7]) (by kernel_rfl) (by simp) ?_
  refine AllReadyH.cons rfl (fun K hK => ?_) AllReadyH.nil
  clear hHeld
  go_simp
  have hg : v11.grownBy ((v11.setCell ⟨w.heap.size, 0, none⟩ (.int .i64 (Int.tdiv a (G : Int)))).setCell ⟨w.heap.size, 1, none⟩ (.int .i64 ((b : Int) / (G : Int)))) (some (w.heap.size)) := grown_trans (grown_set v11 (w.heap.size) 0 (.int .i64 (Int.tdiv a (G : Int)))) (grown_set _ (w.heap.size) 1 (.int .i64 ((b : Int) / (G : Int))))
  have nx0 : ((v11.setCell ⟨w.heap.size, 0, none⟩ (.int .i64 (Int.tdiv a (G : Int)))).setCell ⟨w.heap.size, 1, none⟩ (.int .i64 ((b : Int) / (G : Int)))).cell? ⟨w.heap.size, 0, none⟩ = some (.int .i64 (Int.tdiv a (G : Int))) := (World.cell?_setCell_other _ _ _ _ (by simp)).trans (World.cell?_setCell_same _ _ _ bx_0)
  have nf0 : ((v11.setCell ⟨w.heap.size, 0, none⟩ (.int .i64 (Int.tdiv a (G : Int)))).setCell ⟨w.heap.size, 1, none⟩ (.int .i64 ((b : Int) / (G : Int)))).frozen? ⟨w.heap.size, 0, none⟩ = false := by simp only [World.frozen?_setCell]; exact bx_f0
  have nx1 : ((v11.setCell ⟨w.heap.size, 0, none⟩ (.int .i64 (Int.tdiv a (G : Int)))).setCell ⟨w.heap.size, 1, none⟩ (.int .i64 ((b : Int) / (G : Int)))).cell? ⟨w.heap.size, 1, none⟩ = some (.int .i64 ((b : Int) / (G : Int))) := World.cell?_setCell_same _ _ _ ((World.cell?_setCell_other _ _ _ _ (by simp)).trans bx_1)
  have nf1 : ((v11.setCell ⟨w.heap.size, 0, none⟩ (.int .i64 (Int.tdiv a (G : Int)))).setCell ⟨w.heap.size, 1, none⟩ (.int .i64 ((b : Int) / (G : Int)))).frozen? ⟨w.heap.size, 1, none⟩ = false := by simp only [World.frozen?_setCell]; exact bx_f1
  clear bx_0 bx_f0 bx_1 bx_f1
  generalize hwn : ((v11.setCell ⟨w.heap.size, 0, none⟩ (.int .i64 (Int.tdiv a (G : Int)))).setCell ⟨w.heap.size, 1, none⟩ (.int .i64 ((b : Int) / (G : Int)))) = v12 at *
  clear hwn
  have sz12 : v11.heap.size ≤ v12.heap.size := hg.size
  have HBh12 := Lib.hid (HBh11.out.grown hg (by have := HBh11.out.size; omega) (fun g e => by (have e2 : w.heap.size = g := by simpa using e); omega))
  have bx_0 := nx0
  have bx_f0 := nf0
  have bx_1 := nx1
  have bx_f1 := nf1
  clear hg nx0 nf0 nx1 nf1
  refine hK.out _ _ ?_ (fun hHeld => ?_)
  · exact trivial
  clear hK K
  try simp only [List.getElem_toArray, List.getElem_cons_succ, List.getElem_cons_zero, Act.put, List.setIfInBounds_toArray, List.set_cons_zero, List.set_cons_succ]
  refine wpAnyH_done (by kernel_rfl) ?_ _
  refine NoPanic.normal ?_
  clear hHeld
  go_wp2_with fail
  refine bodyPost_ret (v := .agg #[.int .i64 (Int.tdiv a (G : Int)), .int .i64 ((b : Int) / (G : Int))]) (by simp [results, Try.results115, go_sem, bx_0, bx_1]) rfl ⟨rfl, HBh12.out⟩
end Go.Proofs.Ytplhcboecjegjaa.cutw
