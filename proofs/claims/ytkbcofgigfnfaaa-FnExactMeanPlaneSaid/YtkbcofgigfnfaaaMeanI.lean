/- The program's plane of two means. -/
import Derived.Test.YtkbcofgigfnfaaaMeanP
import Derived.Test.YtkbcofgigfnfaaaRepZ
import Derived.Test.YtkbcofgigfnfaaaRets
import Derived.Test.YtkbcofgigfnfaaaDots
import Derived.Deep.RegionHeld3
import Derived.Deep.DrawnRows
import Derived.Deep.AppendLies
namespace Go.Proofs.Ytkbcofgigfnfaaa.meani
open Go.RowKit own pp nums fill range samplest samplesv sums width fitsp has meanp mk dots
set_option linter.unusedVariables false
set_option linter.unusedSimpArgs false

/-- The first n numbers of a list lie at a place. -/
def At (w : World) (b o : Nat) (L : List Int) (n : Nat) : Prop := ∀ j, j < n → w.cell? ⟨b, o + j, none⟩ = some (.int .i64 (L.getD j 0))
theorem At.below {w w' : World} {b o n B : Nat} {L : List Int} (h : At w b o L n) (hb : Below B w w') (hB : b < B) : At w' b o L n := fun j hj => cell_below hb (h j hj) hB
theorem At.tail {w : World} {b o n : Nat} {L : List Int} (h : At w b o L (n + 1)) (hb : b < w.heap.size) (hl : L.length = n + 1) : ints.Reads .i64 w (some ⟨b, o + 1, none⟩) (L.drop 1) := by
  refine .inr ⟨b, o + 1, rfl, hb, fun j hj => ?_⟩
  rw [List.length_drop] at hj
  rw [show o + 1 + j = o + (j + 1) by omega, h (j + 1) (by omega), drop_getD]
/-- A list that is read, with its place. -/
theorem impl_sumsA (a : Option Addr) (rows : List (List Int)) (c : Nat) (a' : Option Addr) (zs : List Int) (c' : Nat) (p : Option Addr) (q : Nat) (y : Int) (w : World) (hr : grid.Reads w a rows) (hz : ints.Reads .i64 w a' zs) (hq : ints.Reads .i64 w p (ones rows.length)) (hS : SF rows zs (ones rows.length) (rows.getD 0 []).length) :
    Calls Try.prog 129 #[.agg #[.slice a rows.length c, .slice a' zs.length c'], .slice p rows.length q, .int .i64 y] w (fun e' w' => ∃ (b o cc : Nat), e' = .returned (.slice (some ⟨b, o, none⟩) ((rows.getD 0 []).length + 1) cc) ∧ b < w'.heap.size ∧ At w' b o (sA rows zs y) ((rows.getD 0 []).length + 1) ∧ (rows.getD 0 []).length + 1 ≤ cc ∧ Below w.heap.size w w') := by
  have h := impl_sums a rows c a' zs c' p (ones rows.length) q y w hr hz hq hS
  rw [ones_length] at h
  refine h.mono ?_
  rintro e' w' ⟨v, rfl, ho, hb⟩
  have hl : (sumsTo rows zs (ones rows.length) y (rows.getD 0 []).length rows.length).length = (rows.getD 0 []).length + 1 := sums_length _ _ _ _ _ _
  obtain ⟨aA, cA, rfl, hrA, hcA, _⟩ := ho.slice
  obtain ⟨b, o, rfl, hbl, hc⟩ := own1.reads_pos hrA (by omega)
  rw [hl] at hc hcA ⊢
  exact ⟨b, o, cA, rfl, hbl, hc, hcA, hb⟩
theorem cell_keep {W W' : World} (h : Below W.heap.size W W') {b o : Nat} {x : Value} (hx : W.cell? ⟨b, o, none⟩ = some x) : W'.cell? ⟨b, o, none⟩ = some x :=
  cell_below h hx (block_lt_of_cell (a := ⟨b, o, none⟩) hx)
theorem fro_keep {W W' : World} (h : Below W.heap.size W W') {b o o' : Nat} {x : Value} (hx : W.cell? ⟨b, o', none⟩ = some x) (hf : W.frozen? ⟨b, o, none⟩ = false) : W'.frozen? ⟨b, o, none⟩ = false :=
  fro_below h hf (block_lt_of_cell (a := ⟨b, o', none⟩) hx)
theorem cell_grow {W W' : World} {row : Option Nat} (h : W.grownBy W' row) {b o : Nat} {x : Value} (hx : W.cell? ⟨b, o, none⟩ = some x) (hne : ∀ g, row = some g → b ≠ g) : W'.cell? ⟨b, o, none⟩ = some x :=
  (World.cell?_of_block (h.block b (block_lt_of_cell (a := ⟨b, o, none⟩) hx) (fun e => hne b e.symm rfl))).trans hx
theorem fro_grow {W W' : World} {row : Option Nat} (h : W.grownBy W' row) {b o o' : Nat} {x : Value} (hx : W.cell? ⟨b, o', none⟩ = some x) (hf : W.frozen? ⟨b, o, none⟩ = false) (hne : ∀ g, row = some g → b ≠ g) : W'.frozen? ⟨b, o, none⟩ = false :=
  (World.frozen?_of_block (a := ⟨b, o, none⟩) (h.block b (block_lt_of_cell (a := ⟨b, o', none⟩) hx) (fun e => hne b e.symm rfl))).trans hf
theorem own_grow {W W' : World} {row : Option Nat} (h : W.grownBy W' row) {lo hi : Nat} {v : Value} {zs : List Int} (ho : OwnI lo hi W v zs) (hne : ∀ g, row = some g → g < lo ∨ hi ≤ g) : OwnI lo hi W' v zs :=
  ho.block fun g hg => h.block g (ho.lt hg).2.2 (fun e => by have := hne g e.symm; have := ho.lt hg; omega)
theorem cell_set2 {W : World} {b o b' o' : Nat} {x : Value} (hx : W.cell? ⟨b, o, none⟩ = some x) (hne : b ≠ b') (u : Value) : (W.setCell ⟨b', o', none⟩ u).cell? ⟨b, o, none⟩ = some x :=
  (World.cell?_of_block (Below.heap_setCell _ _ _ _ (by show b ≠ b'; exact hne))).trans hx
theorem grown_set (W : World) (b o : Nat) (u : Value) : W.grownBy (W.setCell ⟨b, o, none⟩ u) (some b) :=
  ⟨rfl, rfl, rfl, by rw [size_set]; exact Nat.le_refl _, fun k hk hne => Below.heap_setCell _ _ _ _ (fun e => hne (by rw [e]))⟩
theorem grown_trans {W W1 W2 : World} {row : Option Nat} (h : W.grownBy W1 row) (k : W1.grownBy W2 row) : W.grownBy W2 row :=
  ⟨k.os.trans h.os, k.tape.trans h.tape, k.output.trans h.output, Nat.le_trans h.size k.size, fun i hi hn => (k.block i (Nat.lt_of_lt_of_le hi h.size) hn).trans (h.block i hi hn)⟩
theorem own_narrow {W : World} {lo gg cap : Nat} {l : List Int} {z : Int} (h : W.ownsRow lo 3 1 (.slice (some ⟨gg, 0, none⟩) (l.length + 1) cap) (l.length + 1) (l.map (Value.int .i64) ++ [.int .i64 z])) : OwnI gg (gg + 1) W (.slice (some ⟨gg, 0, none⟩) (l.length + 1) cap) (l ++ [z]) := by
  have h2 : W.ownsRow lo 3 1 (.slice (some ⟨gg, 0, none⟩) (l.length + 1) cap) (l ++ [z]).length ((l ++ [z]).map (Value.int .i64)) := by simpa [List.map_append] using h
  exact ⟨ownsRow_base h2 (fun g e => by obtain rfl : gg = g := (by simpa [Value.ownBlock] using e); exact Nat.le_refl _), fun g e => by obtain rfl : gg = g := (by simpa [Value.ownBlock] using e); omega⟩
theorem own_put {W : World} {lo hi gg n cap : Nat} {l : List Int} (h : OwnI lo hi W (.slice (some ⟨gg, 0, none⟩) n cap) l) (hn : n = l.length) (k : Nat) (z : Int) : OwnI lo hi (W.setCell ⟨gg, k, none⟩ (.int .i64 z)) (.slice (some ⟨gg, 0, none⟩) n cap) (l.set k z) := by
  subst hn
  have := (h.1.stored k (.int .i64 z)).1
  rw [← List.map_set] at this
  exact ⟨by rw [List.length_set]; exact this, h.2⟩
theorem own_cell {W : World} {lo hi gg n cap : Nat} {l : List Int} (h : OwnI lo hi W (.slice (some ⟨gg, 0, none⟩) n cap) l) (hn : n = l.length) (k : Nat) (hk : k < l.length) : W.cell? ⟨gg, k, none⟩ = some (.int .i64 (l.getD k 0)) := by
  subst hn
  rw [h.1.cellAt k (by omega), List.getElem?_map, List.getElem?_eq_getElem hk, List.getD_eq_getElem?_getD, List.getElem?_eq_getElem hk]; rfl
theorem own_fro {W : World} {lo hi gg n cap : Nat} {l : List Int} (h : OwnI lo hi W (.slice (some ⟨gg, 0, none⟩) n cap) l) (hn : n = l.length) (k : Nat) : W.frozen? ⟨gg, k, none⟩ = false := by
  subst hn
  exact h.1.frozenAt k
/-- A number and a list behind it. -/
def Cut (p : Int) (L : List Int) (d : Nat) (w : World) (e : Ending) (w' : World) : Prop := ∃ (b o cc : Nat), e = .returned (.tuple #[.int .i64 p, .slice (some ⟨b, o, none⟩) d cc]) ∧ b < w'.heap.size ∧ (∀ j, j < d → w'.cell? ⟨b, o + j, none⟩ = some (.int .i64 (L.getD (j + 1) 0))) ∧ Below w.heap.size w w'
set_option maxRecDepth 100000 in
set_option maxHeartbeats 1600000 in
theorem impl_sumWith (a : Option Addr) (rows : List (List Int)) (c : Nat) (a' : Option Addr) (zs : List Int) (c' : Nat) (y : Int) (w : World) (hr : grid.Reads w a rows) (hz : ints.Reads .i64 w a' zs) (h : mixB rows zs = true) :
    Calls Try.prog 91 #[.agg #[.slice a rows.length c, .slice a' zs.length c'], .int .i64 y] w (Cut ((sA rows zs y).getD 0 0) (sA rows zs y) (rows.getD 0 []).length w) := by
  have Hhr := Lib.hid hr
  have Hhz := Lib.hid hz
  clear hr hz
  have HSF := Lib.hid (mix_sf h)
  have hps := mix_dim h
  clear h
  go_enter Try.func91, Try.ntmps91
  obtain ⟨wb1, hw1⟩ : ∃ wb1 : World, wb1 = w.alloc (.cells #[.slice a rows.length c, .slice a' zs.length c'] 29) := ⟨_, rfl⟩
  have z1 : wb1.heap.size = w.heap.size + 1 := by rw [hw1]; simp
  have x0_0 := (by rw [hw1]; exact cell_new _ _ _ rfl rfl : wb1.cell? ⟨w.heap.size, 0, none⟩ = some (.slice a rows.length c))
  have x0_1 := (by rw [hw1]; exact cell_new _ _ _ rfl rfl : wb1.cell? ⟨w.heap.size, 1, none⟩ = some (.slice a' zs.length c'))
  have HB0 := Lib.hid (show Below w.heap.size w wb1 by rw [hw1]; exact (Below.refl w.heap.size w).alloc (Nat.le_refl _) _)
  have s1 : w.heap.size + 1 ≤ wb1.heap.size := by omega
  have HZ1 := Lib.hid z1
  clear z1
  go_wp2_with fail
  rw [← hw1]
  clear hw1
  have HSM := Lib.hid (fun (aO : Option Addr) (cO : Nat) (wa : World) (hb : Below wb1.heap.size wb1 wa) (hq : ints.Reads .i64 wa aO (ones rows.length)) => impl_sumsA a rows c a' zs c' aO cO y wa ((Hhr.out.below HB0.out).below hb) ((Hhz.out.below HB0.out).below hb) hq HSF.out)
  obtain ⟨d, hd⟩ : ∃ d : Nat, d = (rows.getD 0 []).length := ⟨_, rfl⟩
  have HPO := Lib.hid (show ∀ (e' : Ending) (w' : World), Cut ((sA rows zs y).getD 0 0) (sA rows zs y) d w e' w' → Cut ((sA rows zs y).getD 0 0) (sA rows zs y) (rows.getD 0 []).length w e' w' from by rw [hd]; exact fun _ _ hh => hh)
  rw [← hd] at HSM hps
  clear hd
  refine wp_region_noPanic ?_
  refine wp_region_held_drew (S := fun w' => w'.cell? ⟨w.heap.size, 0, none⟩ = some (.slice a rows.length c) ∧ w'.cell? ⟨w.heap.size, 1, none⟩ = some (.slice a' zs.length c')) (by kernel_rfl) ?_ (fun hHeld => ?_)
  · exact ⟨x0_0, x0_1⟩
  have hb9 : Below wb1.heap.size wb1 wb1.drew := (Below.refl _ _).drew
  have HC0 := Lib.hid hb9
  clear hb9
  generalize wb1.drew = v0 at *
  refine wpAnyH_take (i := 0) (v := ?_) rfl (by kernel_rfl) (by kernel_rfl) (by kernel_rfl) (fun _ _ _ h => h) (Or.inl ⟨by rfl, ?_⟩) (by assumption) ?_
  rotate_left
  · intro w9 hSw; (try dsimp only at hSw); go_simp; try with_reducible rfl
  try simp only [List.getElem_toArray, List.getElem_cons_succ, List.getElem_cons_zero, Act.put, List.setIfInBounds_toArray, List.set_cons_zero, List.set_cons_succ]
  refine wpAnyH_take (i := 2) (v := ?_) rfl (by kernel_rfl) (by kernel_rfl) (by kernel_rfl) (fun _ _ _ h => h) (Or.inl ⟨by rfl, ?_⟩) (by assumption) ?_
  rotate_left
  · intro w9 hSw; (try dsimp only at hSw); go_simp; try with_reducible rfl
  try simp only [List.getElem_toArray, List.getElem_cons_succ, List.getElem_cons_zero, Act.put, List.setIfInBounds_toArray, List.set_cons_zero, List.set_cons_succ]
  refine wpAnyH_take (i := 3) (v := ?_) rfl (by kernel_rfl) (by kernel_rfl) (by kernel_rfl) (fun _ _ _ h => h) (Or.inl ⟨by rfl, ?_⟩) (by assumption) ?_
  rotate_left
  · intro w9 hSw; (try dsimp only at hSw); go_simp; try with_reducible rfl
  try simp only [List.getElem_toArray, List.getElem_cons_succ, List.getElem_cons_zero, Act.put, List.setIfInBounds_toArray, List.set_cons_zero, List.set_cons_succ]
  refine wpAnyH_take (i := 4) (v := ?_) rfl (by kernel_rfl) (by kernel_rfl) (by kernel_rfl) (fun _ _ _ h => h) (Or.inl ⟨by rfl, ?_⟩) (by assumption) ?_
  rotate_left
  · intro w9 hSw; (try dsimp only at hSw); go_simp; try with_reducible rfl
  try simp only [List.getElem_toArray, List.getElem_cons_succ, List.getElem_cons_zero, Act.put, List.setIfInBounds_toArray, List.set_cons_zero, List.set_cons_succ]
  refine wpAnyH_take (i := 6) (v := ?_) rfl (by kernel_rfl) (by kernel_rfl) (by kernel_rfl) (fun _ _ _ h => h) (Or.inl ⟨by rfl, ?_⟩) (by assumption) ?_
  rotate_left
  · intro w9 hSw; (try dsimp only at hSw); go_simp; try with_reducible rfl
  try simp only [List.getElem_toArray, List.getElem_cons_succ, List.getElem_cons_zero, Act.put, List.setIfInBounds_toArray, List.set_cons_zero, List.set_cons_succ]
  refine wpAnyH_ready (rs := [1]) (by kernel_rfl) (by simp) ?_
  refine AllReadyH.cons rfl (fun K hK => ?_) AllReadyH.nil
  clear hHeld
  go_simp
  have c5 : (v0.alloc (.cells #[.int .i64 1] 3)).cell? ⟨v0.heap.size, 0, none⟩ = some (.int .i64 1) := cell_new _ _ _ rfl rfl
  have hb := below_alloc v0 (.cells #[.int .i64 1] 3)
  have hlt5 := size_alloc' v0 (.cells #[.int .i64 1] 3)
  obtain ⟨B5, hB5⟩ : ∃ B5 : Nat, B5 = v0.heap.size := ⟨_, rfl⟩
  rw [← hB5] at c5 hlt5 ⊢
  have HC1 := Lib.hid (HC0.out.trans (hb.mono HC0.out.size))
  generalize hwn : v0.alloc (.cells #[.int .i64 1] 3) = v1 at *
  clear hwn hB5 hb
  have s1v := HC1.out.size
  have mv1_0 := cell_below HC1.out x0_0 (by omega)
  have mv1_1 := cell_below HC1.out x0_1 (by omega)
  refine hK.out _ _ ?_ (fun hHeld => ?_)
  · exact ⟨mv1_0, mv1_1⟩
  clear hK K
  try simp only [List.getElem_toArray, List.getElem_cons_succ, List.getElem_cons_zero, Act.put, List.setIfInBounds_toArray, List.set_cons_zero, List.set_cons_succ]
  refine wpAnyH_ready (rs := [5]) (by kernel_rfl) (by simp) ?_
  refine AllReadyH.cons rfl (fun K hK => ?_) AllReadyH.nil
  clear hHeld
  go_simp
  refine (repz.reps 1 B5 0 1 rows.length v1 c5 hps.1 (by omega)).mono ?_
  rintro e' v2 ⟨vO, rfl, hoO, hb⟩
  obtain ⟨aO, cO, rfl, hrO, _, _⟩ := hoO.slice
  have HRO := Lib.hid (show ints.Reads .i64 v2 aO (ones rows.length) from hrO)
  have HC2 := Lib.hid (HC1.out.trans (hb.mono HC1.out.size))
  clear hb hoO hrO
  rw [show (List.replicate rows.length (1 : Int)).length = rows.length from List.length_replicate]
  have s2v := HC2.out.size
  have mv2_0 := cell_below HC2.out x0_0 (by omega)
  have mv2_1 := cell_below HC2.out x0_1 (by omega)
  refine hK.out _ _ ?_ (fun hHeld => ?_)
  · exact ⟨mv2_0, mv2_1⟩
  clear hK K
  try simp only [List.getElem_toArray, List.getElem_cons_succ, List.getElem_cons_zero, Act.put, List.setIfInBounds_toArray, List.set_cons_zero, List.set_cons_succ]
  refine wpAnyH_ready (rs := [7]) (by kernel_rfl) (by simp) ?_
  refine AllReadyH.cons rfl (fun K hK => ?_) AllReadyH.nil
  clear hHeld
  go_simp
  refine (HSM.out aO cO v2 HC2.out HRO.out).mono ?_
  rintro e' v3 ⟨bA, oA, cA, rfl, hlA, hatA, hcA, hb⟩
  have HAA := Lib.hid hatA
  have HC3 := Lib.hid (HC2.out.trans (hb.mono HC2.out.size))
  clear hb hatA
  have s3v := HC3.out.size
  have mv3_0 := cell_below HC3.out x0_0 (by omega)
  have mv3_1 := cell_below HC3.out x0_1 (by omega)
  refine hK.out _ _ ?_ (fun hHeld => ?_)
  · exact ⟨mv3_0, mv3_1⟩
  clear hK K
  try simp only [List.getElem_toArray, List.getElem_cons_succ, List.getElem_cons_zero, Act.put, List.setIfInBounds_toArray, List.set_cons_zero, List.set_cons_succ]
  refine wpAnyH_take (i := 8) (v := ?_) rfl (by kernel_rfl) (by kernel_rfl) (by kernel_rfl) (fun _ _ _ h => h) (Or.inl ⟨by rfl, ?_⟩) (by assumption) ?_
  rotate_left
  · intro w9 hSw; (try dsimp only at hSw); go_simp; try with_reducible rfl
  try simp only [List.getElem_toArray, List.getElem_cons_succ, List.getElem_cons_zero, Act.put, List.setIfInBounds_toArray, List.set_cons_zero, List.set_cons_succ]
  refine wpAnyH_done (by kernel_rfl) ?_ _
  refine NoPanic.normal ?_
  have hp0 := HAA.out 0 (by omega)
  rw [Nat.add_zero] at hp0
  generalize sA rows zs y = A at *
  have HF := Lib.hid (HPO.out _ _ (show Cut (A.getD 0 0) A d w (.returned (.tuple #[.int .i64 (A.getD 0 0), .slice (some ⟨bA, oA + 1, none⟩) (d + 1 - 1) (cA - 1)])) v3.drew from ⟨bA, oA + 1, cA - 1, by rw [Nat.add_sub_cancel], hlA, fun j hj => by (have h9 := HAA.out (j + 1) (by omega)); rw [show oA + 1 + j = oA + (j + 1) by omega]; exact h9, (HB0.out.trans (HC3.out.mono (by omega))).drew⟩))
  obtain ⟨n1, hn1⟩ : ∃ n1 : Nat, n1 = d + 1 := ⟨_, rfl⟩
  rw [← hn1] at HF hcA ⊢
  have hn15 : 2 ≤ n1 ∧ n1 ≤ 5 := by omega
  have iA0 : (0 : Int) < (n1 : Int) := by omega
  have iA1 : 0 < n1 := by omega
  have iA2 : (1 : Int) ≤ (n1 : Int) := by omega
  have hcA1 : 1 ≤ cA := by omega
  have hcA2 : ¬ (cA = 1) := by omega
  clear hn1 HAA
  generalize A.getD 0 0 = p at *
  go_wp2_with fail
  refine wp_region_noPanic ?_
  refine wp_region_held_drew (S := fun w' => w'.cell? ⟨bA, oA, none⟩ = some (.int .i64 p)) (by kernel_rfl) ?_ (fun hHeld => ?_)
  · exact hp0
  refine wpAnyH_take (i := 0) (v := ?_) rfl (by kernel_rfl) (by kernel_rfl) (by kernel_rfl) (fun _ _ _ h => h) (Or.inl ⟨by rfl, ?_⟩) (by assumption) ?_
  rotate_left
  · intro w9 hSw; (try dsimp only at hSw); go_simp; try with_reducible rfl
  try simp only [List.getElem_toArray, List.getElem_cons_succ, List.getElem_cons_zero, Act.put, List.setIfInBounds_toArray, List.set_cons_zero, List.set_cons_succ]
  refine wpAnyH_take (i := 1) (v := ?_) rfl (by kernel_rfl) (by kernel_rfl) (by kernel_rfl) (fun _ _ _ h => h) (Or.inl ⟨by rfl, ?_⟩) (by assumption) ?_
  rotate_left
  · intro w9 hSw; (try dsimp only at hSw); go_simp; try with_reducible rfl
  try simp only [List.getElem_toArray, List.getElem_cons_succ, List.getElem_cons_zero, Act.put, List.setIfInBounds_toArray, List.set_cons_zero, List.set_cons_succ]
  refine wpAnyH_take (i := 2) (v := ?_) rfl (by kernel_rfl) (by kernel_rfl) (by kernel_rfl) (fun _ _ _ h => h) (Or.inl ⟨by rfl, ?_⟩) (by assumption) ?_
  rotate_left
  · intro w9 hSw; (try dsimp only at hSw); go_simp; try with_reducible rfl
  try simp only [List.getElem_toArray, List.getElem_cons_succ, List.getElem_cons_zero, Act.put, List.setIfInBounds_toArray, List.set_cons_zero, List.set_cons_succ]
  refine wpAnyH_take (i := 3) (v := ?_) rfl (by kernel_rfl) (by kernel_rfl) (by kernel_rfl) (fun _ _ _ h => h) (Or.inl ⟨by rfl, ?_⟩) (by assumption) ?_
  rotate_left
  · intro w9 hSw; (try dsimp only at hSw); go_simp; try with_reducible rfl
  try simp only [List.getElem_toArray, List.getElem_cons_succ, List.getElem_cons_zero, Act.put, List.setIfInBounds_toArray, List.set_cons_zero, List.set_cons_succ]
  refine wpAnyH_take (i := 4) (v := ?_) rfl (by kernel_rfl) (by kernel_rfl) (by kernel_rfl) (fun _ _ _ h => h) (Or.inl ⟨by rfl, ?_⟩) (by assumption) ?_
  rotate_left
  · intro w9 hSw; (try dsimp only at hSw); go_simp; try with_reducible rfl
  try simp only [List.getElem_toArray, List.getElem_cons_succ, List.getElem_cons_zero, Act.put, List.setIfInBounds_toArray, List.set_cons_zero, List.set_cons_succ]
  refine wpAnyH_take (i := 5) (v := ?_) rfl (by kernel_rfl) (by kernel_rfl) (by kernel_rfl) (fun _ _ _ h => h) (Or.inl ⟨by rfl, ?_⟩) (by assumption) ?_
  rotate_left
  · intro w9 hSw; (try dsimp only at hSw); go_simp; try with_reducible rfl
  try simp only [List.getElem_toArray, List.getElem_cons_succ, List.getElem_cons_zero, Act.put, List.setIfInBounds_toArray, List.set_cons_zero, List.set_cons_succ]
  refine wpAnyH_take (i := 6) (v := ?_) rfl (by kernel_rfl) (by kernel_rfl) (by kernel_rfl) (fun _ _ _ h => h) (Or.inl ⟨by rfl, ?_⟩) (by assumption) ?_
  rotate_left
  · intro w9 hSw; (try dsimp only at hSw); go_simp; try with_reducible rfl
  try simp only [List.getElem_toArray, List.getElem_cons_succ, List.getElem_cons_zero, Act.put, List.setIfInBounds_toArray, List.set_cons_zero, List.set_cons_succ]
  refine wpAnyH_done (by kernel_rfl) ?_ _
  refine NoPanic.normal ?_
  go_wp2_with fail
  go_ret2
  exact HF.out
set_option maxRecDepth 100000 in
set_option maxHeartbeats 1600000 in
theorem impl_mean_no (a : Option Addr) (rows : List (List Int)) (c : Nat) (a' : Option Addr) (zs : List Int) (c' : Nat) (w : World) (hr : grid.Reads w a rows) (hz : ints.Reads .i64 w a' zs) (hn : rows.length ≤ 1048576) (hk : zs.length ≤ 1048576) (hm : ∀ r ∈ rows, r.length ≤ 1048576) (h : mixB rows zs = false) :
    Calls Try.prog 37 #[.agg #[.slice a rows.length c, .slice a' zs.length c']] w (RetINB [] 0 false w) := by
  have Hhr := Lib.hid hr
  have Hhz := Lib.hid hz
  have Hhm := Lib.hid hm
  clear hr hz hm
  have HX := Lib.hid h
  clear h
  go_enter Try.func37, Try.ntmps37
  obtain ⟨wb1, hw1⟩ : ∃ wb1 : World, wb1 = w.alloc (.cells #[.slice a rows.length c, .slice a' zs.length c'] 29) := ⟨_, rfl⟩
  have z1 : wb1.heap.size = w.heap.size + 1 := by rw [hw1]; simp
  have x0_0 := (by rw [hw1]; exact cell_new _ _ _ rfl rfl : wb1.cell? ⟨w.heap.size, 0, none⟩ = some (.slice a rows.length c))
  have x0_1 := (by rw [hw1]; exact cell_new _ _ _ rfl rfl : wb1.cell? ⟨w.heap.size, 1, none⟩ = some (.slice a' zs.length c'))
  have HB0 := Lib.hid (show Below w.heap.size w wb1 by rw [hw1]; exact (Below.refl w.heap.size w).alloc (Nat.le_refl _) _)
  have s1 : w.heap.size + 1 ≤ wb1.heap.size := by omega
  have HZ1 := Lib.hid z1
  clear z1
  go_wp2_with fail
  rw [← hw1]
  clear hw1
  refine (impl_mixed a rows c a' zs c' wb1 (Hhr.out.below HB0.out) (Hhz.out.below HB0.out) hn hk Hhm.out false HX).mono ?_
  rintro e' w2 ⟨rfl, hb⟩
  replace x0_0 := cell_below hb x0_0 (by omega)
  replace x0_1 := cell_below hb x0_1 (by omega)
  have s2 := hb.size
  have HB2 := Lib.hid (HB0.out.trans (hb.mono HB0.out.size))
  clear hb
  go_wp2_with fail
  go_ret3
  exact ⟨_, rfl, (own_empty _).mono HB2.out.size (by simp), HB2.out.alloc HB2.out.size _⟩
set_option maxRecDepth 100000 in
set_option maxHeartbeats 1600000 in
theorem impl_mean_yes (a : Option Addr) (rows : List (List Int)) (c : Nat) (a' : Option Addr) (zs : List Int) (c' : Nat) (w : World) (hr : grid.Reads w a rows) (hz : ints.Reads .i64 w a' zs) (hn : rows.length ≤ 1048576) (hk : zs.length ≤ 1048576) (hm : ∀ r ∈ rows, r.length ≤ 1048576) (h : mixB rows zs = true) :
    Calls Try.prog 37 #[.agg #[.slice a rows.length c, .slice a' zs.length c']] w (RetINB (mW (rows.getD 0 []).length (sA rows zs 1) (sA rows zs (-1))) (mD (sA rows zs 1) (sA rows zs (-1))) true w) := by
  obtain ⟨i0, hi, hz0, hz1, hz2⟩ := info_parts mk.infoInt
  have Hhr := Lib.hid hr
  have Hhz := Lib.hid hz
  have Hhm := Lib.hid hm
  clear hr hz hm
  have HX := Lib.hid h
  have HMB := Lib.hid (mb_of h)
  have hps := mix_dim h
  clear h
  go_enter Try.func37, Try.ntmps37
  obtain ⟨wb1, hw1⟩ : ∃ wb1 : World, wb1 = w.alloc (.cells #[.slice a rows.length c, .slice a' zs.length c'] 29) := ⟨_, rfl⟩
  have z1 : wb1.heap.size = w.heap.size + 1 := by rw [hw1]; simp
  have x0_0 := (by rw [hw1]; exact cell_new _ _ _ rfl rfl : wb1.cell? ⟨w.heap.size, 0, none⟩ = some (.slice a rows.length c))
  have x0_1 := (by rw [hw1]; exact cell_new _ _ _ rfl rfl : wb1.cell? ⟨w.heap.size, 1, none⟩ = some (.slice a' zs.length c'))
  have HB0 := Lib.hid (show Below w.heap.size w wb1 by rw [hw1]; exact (Below.refl w.heap.size w).alloc (Nat.le_refl _) _)
  have s1 : w.heap.size + 1 ≤ wb1.heap.size := by omega
  have HZ1 := Lib.hid z1
  clear z1
  go_wp2_with fail
  rw [← hw1]
  clear hw1
  refine (impl_mixed a rows c a' zs c' wb1 (Hhr.out.below HB0.out) (Hhz.out.below HB0.out) hn hk Hhm.out true HX).mono ?_
  rintro e' w2 ⟨rfl, hb⟩
  replace x0_0 := cell_below hb x0_0 (by omega)
  replace x0_1 := cell_below hb x0_1 (by omega)
  have s2 := hb.size
  have HB2 := Lib.hid (HB0.out.trans (hb.mono HB0.out.size))
  clear hb
  go_wp2_with fail
  have HSW := Lib.hid (fun (y : Int) (wa : World) (hb : Below w2.heap.size w2 wa) => impl_sumWith a rows c a' zs c' y wa ((Hhr.out.below HB2.out).below hb) ((Hhz.out.below HB2.out).below hb) HX.out)
  obtain ⟨d, hd⟩ : ∃ d : Nat, d = (rows.getD 0 []).length := ⟨_, rfl⟩
  have HPO := Lib.hid (show ∀ (e' : Ending) (w' : World), RetINB (mW d (sA rows zs 1) (sA rows zs (-1))) (mD (sA rows zs 1) (sA rows zs (-1))) true w e' w' → RetINB (mW (rows.getD 0 []).length (sA rows zs 1) (sA rows zs (-1))) (mD (sA rows zs 1) (sA rows zs (-1))) true w e' w' from by rw [hd]; exact fun _ _ hh => hh)
  rw [← hd] at HMB hps HSW
  clear hd
  refine (HSW.out (1) w2 (Below.refl _ _)).mono ?_
  rintro e' w3 ⟨bA, oA, cA, rfl, hlA, hatA, hb⟩
  replace x0_0 := cell_below hb x0_0 (by omega)
  replace x0_1 := cell_below hb x0_1 (by omega)
  have s3 := hb.size
  have HAA := Lib.hid (show ∀ j, j < d → w3.cell? ⟨bA, oA + j, none⟩ = some (.int .i64 ((sA rows zs (1)).getD (j + 1) 0)) from hatA)
  have HB3 := Lib.hid (HB2.out.trans (hb.mono HB2.out.size))
  have HY3 := Lib.hid hb
  clear hb hatA
  generalize hda9 : (sA rows zs 1).getD 0 0 = p at *
  go_wp2_with fail
  refine (HSW.out (-1) w3 HY3.out).mono ?_
  rintro e' w4 ⟨bB, oB, cB, rfl, hlB, hatB, hb⟩
  replace x0_0 := cell_below hb x0_0 (by omega)
  replace x0_1 := cell_below hb x0_1 (by omega)
  have s4 := hb.size
  have HBB := Lib.hid (show ∀ j, j < d → w4.cell? ⟨bB, oB + j, none⟩ = some (.int .i64 ((sA rows zs (-1)).getD (j + 1) 0)) from hatB)
  have HB4 := Lib.hid (HB3.out.trans (hb.mono HB3.out.size))
  have HY4 := Lib.hid hb
  clear hb hatB
  generalize hdb9 : (sA rows zs (-1)).getD 0 0 = q at *
  have hA2 : Hid (∀ j, j < d → w4.cell? ⟨bA, oA + j, none⟩ = some (.int .i64 ((sA rows zs 1).getD (j + 1) 0))) := fun j hj => cell_below HY4.out (HAA.out j hj) hlA
  clear HAA
  have HAA := hA2
  clear hA2
  generalize sA rows zs 1 = A at *
  generalize sA rows zs (-1) = B at *
  have hM := HMB.out
  have HP16 := Lib.hid hM.a0
  have HQ16 := Lib.hid hM.b0
  have hd4 := hM.d4
  have HLA := Lib.hid hM.la
  have HLB := Lib.hid hM.lb
  have HWA := Lib.hid (show mW d A B = mk.mk (mwAt A B) d from rfl)
  have HDD := Lib.hid (show mD A B = B.getD 0 0 * B.getD 0 0 * dot (A.drop 1) (A.drop 1) - A.getD 0 0 * A.getD 0 0 * dot (B.drop 1) (B.drop 1) from rfl)
  obtain ⟨f9, hf9⟩ : ∃ f9 : Nat → Int, f9 = mwAt A B := ⟨_, rfl⟩
  have HF9 := Lib.hid (show ∀ j, f9 j = 2 * A.getD 0 0 * B.getD 0 0 * (B.getD 0 0 * A.getD (j + 1) 0 - A.getD 0 0 * B.getD (j + 1) 0) from fun j => by rw [hf9]; rfl)
  rw [← hf9] at HWA
  clear hf9 hM
  rw [hda9] at HP16 HDD HF9
  rw [hdb9] at HQ16 HDD HF9
  clear hda9 hdb9
  go_wp2_with (refine wpList_make_full _ rfl _ _ 23 rfl w2.heap.size 3 i0 (.int .i64 0) 1 Try.underlying23 hi hz0 hz1 .i64 .i64 _ _ d rfl rfl rfl rfl (by rw [hz2]; omega) (by unfold maxLen; omega) (by omega) ?_; intro w5 hown1 hgrow1; refine Hid.out ?_)
  have hb5 : Below w4.heap.size w4 w5 := (Below.refl _ _).grown hgrow1 (Nat.le_refl _) (by simp)
  have s5 := hb5.size
  have hlt5 : w4.heap.size < w5.heap.size := (hown1.lt w4.heap.size rfl).2
  rw [show (Value.int .i64 0).cells = #[Value.int .i64 0] from rfl, Nat.mul_one, toList_madeCells_one, ← fil_zero f9] at hown1
  have HO1 := Lib.hid hown1
  have HB5 := Lib.hid (HB4.out.trans (hb5.mono HB4.out.size))
  have HY5 := Lib.hid hb5
  have hlA4 : bA < w4.heap.size := by omega
  clear hgrow1 hown1 hb5 x0_0 x0_1
  refine Lib.hid ?_
  go_wp2_with fail
  go_loopw [30] (fun i wr => ∃ k : Nat, k ≤ d ∧ i = .int .i64 k ∧ wr.ownsRow w2.heap.size 3 1 (.slice (some ⟨w4.heap.size, 0, none⟩) d d) d (fil f9 d k) ∧ Below w4.heap.size w5 wr) (fun i _ => d - (intOf i).toNat)
  case atStart => exact ⟨0, Nat.zero_le _, rfl, HO1.out, (Below.refl w5.heap.size w5).mono (by omega)⟩
  case round =>
    obtain ⟨k, hk9, rfl, hown, hbel⟩ := hrel
    have HV := Lib.hid hown.lt
    have hsz := hbel.size
    have HBwr := Lib.hid hbel
    have HOwr := Lib.hid hown
    have HX4 := Lib.hid (HY5.out.trans hbel)
    by_cases hlt : k < d
    · have hcx := cell_below HX4.out (HAA.out k hlt) (by omega)
      have hcy := cell_below HX4.out (HBB.out k hlt) (by omega)
      have hMW := mw_of HP16.out HQ16.out (HMB.out.aa (k + 1) (by omega)) (HMB.out.bb (k + 1) (by omega))
      have HFK := Lib.hid (show f9 k = 2 * p * q * (q * A.getD (k + 1) 0 - p * B.getD (k + 1) 0) from HF9.out k)
      have hbA : bA < wr.heap.size := by omega
      have hbB : bB < wr.heap.size := by omega
      have i1 : (0 : Int) ≤ (k : Int) := by omega
      have i2 : (k : Int) < (d : Int) := by omega
      clear hown hbel HO1
      generalize A.getD (k + 1) 0 = x at *
      generalize B.getD (k + 1) 0 = y at *
      obtain ⟨e1, e2, e3, e4, e5, e6⟩ := hMW
      go_wp2_with fail
      refine wp_region_noPanic ?_
      refine wp_region_held_drew (S := fun w' => w'.cell? ⟨bA, oA + k, none⟩ = some (.int .i64 x) ∧ w'.cell? ⟨bB, oB + k, none⟩ = some (.int .i64 y)) (by kernel_rfl) ?_ (fun hHeld => ?_)
      · exact ⟨hcx, hcy⟩
      have hb9 : Below wr.heap.size wr wr.drew := (Below.refl _ _).drew
      have ho0 := ownsRow_block (w' := wr.drew) HOwr.out (fun g hg => hb9.block g (HV.out g hg).2)
      have hcell : wr.drew.cell? ⟨w4.heap.size, k, none⟩ = some (.int .i64 0) := by rw [ho0.cellAt k (by omega), fil_at _ _ k hlt]
      have hfro := ho0.frozenAt k
      have hst := (ho0.stored k (.int .i64 (2 * p * q * (q * x - p * y)))).1
      have HST := Lib.hid (show (wr.drew.setCell ⟨w4.heap.size, k, none⟩ (.int .i64 (2 * p * q * (q * x - p * y)))).ownsRow w2.heap.size 3 1 (.slice (some ⟨w4.heap.size, 0, none⟩) d d) d (fil f9 d (k + 1)) by rw [← fil_succ f9 _ k hlt, HFK.out]; exact hst)
      have hc0x := cell_set2 (b' := w4.heap.size) (o' := k) (cell_below hb9 hcx (by omega)) (by omega : bA ≠ w4.heap.size) (.int .i64 (2 * p * q * (q * x - p * y)))
      have hc0y := cell_set2 (b' := w4.heap.size) (o' := k) (cell_below hb9 hcy (by omega)) (by omega : bB ≠ w4.heap.size) (.int .i64 (2 * p * q * (q * x - p * y)))
      have HBn := Lib.hid ((HBwr.out.trans (hb9.mono (by omega))).setCell (p := ⟨w4.heap.size, k, none⟩) (Nat.le_refl _) (.int .i64 (2 * p * q * (q * x - p * y))))
      clear ho0 hst
      generalize wr.drew = v0 at *
      refine wpAnyH_take (i := 0) (v := ?_) rfl (by kernel_rfl) (by kernel_rfl) (by kernel_rfl) (fun _ _ _ h => h) (Or.inl ⟨by rfl, ?_⟩) (by assumption) ?_
      rotate_left
      · intro w9 hSw; (try dsimp only at hSw); go_simp; try with_reducible rfl
      try simp only [List.getElem_toArray, List.getElem_cons_succ, List.getElem_cons_zero, Act.put, List.setIfInBounds_toArray, List.set_cons_zero, List.set_cons_succ]
      refine wpAnyH_take (i := 1) (v := ?_) rfl (by kernel_rfl) (by kernel_rfl) (by kernel_rfl) (fun _ _ _ h => h) (Or.inl ⟨by rfl, ?_⟩) (by assumption) ?_
      rotate_left
      · intro w9 hSw; (try dsimp only at hSw); go_simp; try with_reducible rfl
      try simp only [List.getElem_toArray, List.getElem_cons_succ, List.getElem_cons_zero, Act.put, List.setIfInBounds_toArray, List.set_cons_zero, List.set_cons_succ]
      refine wpAnyH_take (i := 2) (v := ?_) rfl (by kernel_rfl) (by kernel_rfl) (by kernel_rfl) (fun _ _ _ h => h) (Or.inl ⟨by rfl, ?_⟩) (by assumption) ?_
      rotate_left
      · intro w9 hSw; (try dsimp only at hSw); go_simp; try with_reducible rfl
      try simp only [List.getElem_toArray, List.getElem_cons_succ, List.getElem_cons_zero, Act.put, List.setIfInBounds_toArray, List.set_cons_zero, List.set_cons_succ]
      refine wpAnyH_take (i := 3) (v := ?_) rfl (by kernel_rfl) (by kernel_rfl) (by kernel_rfl) (fun _ _ _ h => h) (Or.inl ⟨by rfl, ?_⟩) (by assumption) ?_
      rotate_left
      · intro w9 hSw; (try dsimp only at hSw); go_simp; try with_reducible rfl
      try simp only [List.getElem_toArray, List.getElem_cons_succ, List.getElem_cons_zero, Act.put, List.setIfInBounds_toArray, List.set_cons_zero, List.set_cons_succ]
      refine wpAnyH_take (i := 4) (v := ?_) rfl (by kernel_rfl) (by kernel_rfl) (by kernel_rfl) (fun _ _ _ h => h) (Or.inl ⟨by rfl, ?_⟩) (by assumption) ?_
      rotate_left
      · intro w9 hSw; (try dsimp only at hSw); go_simp; try with_reducible rfl
      try simp only [List.getElem_toArray, List.getElem_cons_succ, List.getElem_cons_zero, Act.put, List.setIfInBounds_toArray, List.set_cons_zero, List.set_cons_succ]
      refine wpAnyH_take (i := 5) (v := ?_) rfl (by kernel_rfl) (by kernel_rfl) (by kernel_rfl) (fun _ _ _ h => h) (Or.inl ⟨by rfl, ?_⟩) (by assumption) ?_
      rotate_left
      · intro w9 hSw; (try dsimp only at hSw); go_simp; try with_reducible rfl
      try simp only [List.getElem_toArray, List.getElem_cons_succ, List.getElem_cons_zero, Act.put, List.setIfInBounds_toArray, List.set_cons_zero, List.set_cons_succ]
      refine wpAnyH_take (i := 6) (v := ?_) rfl (by kernel_rfl) (by kernel_rfl) (by kernel_rfl) (fun _ _ _ h => h) (Or.inl ⟨by rfl, ?_⟩) (by assumption) ?_
      rotate_left
      · intro w9 hSw; (try dsimp only at hSw); go_simp; try with_reducible rfl
      try simp only [List.getElem_toArray, List.getElem_cons_succ, List.getElem_cons_zero, Act.put, List.setIfInBounds_toArray, List.set_cons_zero, List.set_cons_succ]
      refine wpAnyH_take (i := 7) (v := ?_) rfl (by kernel_rfl) (by kernel_rfl) (by kernel_rfl) (fun _ _ _ h => h) (Or.inl ⟨by rfl, ?_⟩) (by assumption) ?_
      rotate_left
      · intro w9 hSw; (try dsimp only at hSw); go_simp; try with_reducible rfl
      try simp only [List.getElem_toArray, List.getElem_cons_succ, List.getElem_cons_zero, Act.put, List.setIfInBounds_toArray, List.set_cons_zero, List.set_cons_succ]
      refine wpAnyH_take (i := 8) (v := ?_) rfl (by kernel_rfl) (by kernel_rfl) (by kernel_rfl) (fun _ _ _ h => h) (Or.inl ⟨by rfl, ?_⟩) (by assumption) ?_
      rotate_left
      · intro w9 hSw; (try dsimp only at hSw); go_simp; try with_reducible rfl
      try simp only [List.getElem_toArray, List.getElem_cons_succ, List.getElem_cons_zero, Act.put, List.setIfInBounds_toArray, List.set_cons_zero, List.set_cons_succ]
      refine wpAnyH_take (i := 9) (v := ?_) rfl (by kernel_rfl) (by kernel_rfl) (by kernel_rfl) (fun _ _ _ h => h) (Or.inl ⟨by rfl, ?_⟩) (by assumption) ?_
      rotate_left
      · intro w9 hSw; (try dsimp only at hSw); go_simp; try with_reducible rfl
      try simp only [List.getElem_toArray, List.getElem_cons_succ, List.getElem_cons_zero, Act.put, List.setIfInBounds_toArray, List.set_cons_zero, List.set_cons_succ]
      refine wpAnyH_take (i := 10) (v := ?_) rfl (by kernel_rfl) (by kernel_rfl) (by kernel_rfl) (fun _ _ _ h => h) (Or.inl ⟨by rfl, ?_⟩) (by assumption) ?_
      rotate_left
      · intro w9 hSw; (try dsimp only at hSw); go_simp; try with_reducible rfl
      try simp only [List.getElem_toArray, List.getElem_cons_succ, List.getElem_cons_zero, Act.put, List.setIfInBounds_toArray, List.set_cons_zero, List.set_cons_succ]
      refine wpAnyH_take (i := 11) (v := ?_) rfl (by kernel_rfl) (by kernel_rfl) (by kernel_rfl) (fun _ _ _ h => h) (Or.inl ⟨by rfl, ?_⟩) (by assumption) ?_
      rotate_left
      · intro w9 hSw; (try dsimp only at hSw); go_simp; try with_reducible rfl
      try simp only [List.getElem_toArray, List.getElem_cons_succ, List.getElem_cons_zero, Act.put, List.setIfInBounds_toArray, List.set_cons_zero, List.set_cons_succ]
      refine wpAnyH_take (i := 12) (v := ?_) rfl (by kernel_rfl) (by kernel_rfl) (by kernel_rfl) (fun _ _ _ h => h) (Or.inl ⟨by rfl, ?_⟩) (by assumption) ?_
      rotate_left
      · intro w9 hSw; (try dsimp only at hSw); go_simp; try with_reducible rfl
      try simp only [List.getElem_toArray, List.getElem_cons_succ, List.getElem_cons_zero, Act.put, List.setIfInBounds_toArray, List.set_cons_zero, List.set_cons_succ]
      refine wpAnyH_take (i := 13) (v := ?_) rfl (by kernel_rfl) (by kernel_rfl) (by kernel_rfl) (fun _ _ _ h => h) (Or.inl ⟨by rfl, ?_⟩) (by assumption) ?_
      rotate_left
      · intro w9 hSw; (try dsimp only at hSw); go_simp; try with_reducible rfl
      try simp only [List.getElem_toArray, List.getElem_cons_succ, List.getElem_cons_zero, Act.put, List.setIfInBounds_toArray, List.set_cons_zero, List.set_cons_succ]
      refine wpAnyH_take (i := 14) (v := ?_) rfl (by kernel_rfl) (by kernel_rfl) (by kernel_rfl) (fun _ _ _ h => h) (Or.inl ⟨by rfl, ?_⟩) (by assumption) ?_
      rotate_left
      · intro w9 hSw; (try dsimp only at hSw); go_simp; try with_reducible rfl
      try simp only [List.getElem_toArray, List.getElem_cons_succ, List.getElem_cons_zero, Act.put, List.setIfInBounds_toArray, List.set_cons_zero, List.set_cons_succ]
      refine wpAnyH_take (i := 15) (v := ?_) rfl (by kernel_rfl) (by kernel_rfl) (by kernel_rfl) (fun _ _ _ h => h) (Or.inl ⟨by rfl, ?_⟩) (by assumption) ?_
      rotate_left
      · intro w9 hSw; (try dsimp only at hSw); go_simp; try with_reducible rfl
      try simp only [List.getElem_toArray, List.getElem_cons_succ, List.getElem_cons_zero, Act.put, List.setIfInBounds_toArray, List.set_cons_zero, List.set_cons_succ]
      refine wpAnyH_take (i := 16) (v := ?_) rfl (by kernel_rfl) (by kernel_rfl) (by kernel_rfl) (fun _ _ _ h => h) (Or.inl ⟨by rfl, ?_⟩) (by assumption) ?_
      rotate_left
      · intro w9 hSw; (try dsimp only at hSw); go_simp; try with_reducible rfl
      try simp only [List.getElem_toArray, List.getElem_cons_succ, List.getElem_cons_zero, Act.put, List.setIfInBounds_toArray, List.set_cons_zero, List.set_cons_succ]
      refine wpAnyH_take (i := 17) (v := ?_) rfl (by kernel_rfl) (by kernel_rfl) (by kernel_rfl) (fun _ _ _ h => h) (Or.inl ⟨by rfl, ?_⟩) (by assumption) ?_
      rotate_left
      · intro w9 hSw; (try dsimp only at hSw); go_simp; try with_reducible rfl
      try simp only [List.getElem_toArray, List.getElem_cons_succ, List.getElem_cons_zero, Act.put, List.setIfInBounds_toArray, List.set_cons_zero, List.set_cons_succ]
      refine wpAnyH_take (i := 18) (v := ?_) rfl (by kernel_rfl) (by kernel_rfl) (by kernel_rfl) (fun _ _ _ h => h) (Or.inl ⟨by rfl, ?_⟩) (by assumption) ?_
      rotate_left
      · intro w9 hSw; (try dsimp only at hSw); go_simp; try with_reducible rfl
      try simp only [List.getElem_toArray, List.getElem_cons_succ, List.getElem_cons_zero, Act.put, List.setIfInBounds_toArray, List.set_cons_zero, List.set_cons_succ]
      refine wpAnyH_take (i := 19) (v := ?_) rfl (by kernel_rfl) (by kernel_rfl) (by kernel_rfl) (fun _ _ _ h => h) (Or.inl ⟨by rfl, ?_⟩) (by assumption) ?_
      rotate_left
      · intro w9 hSw; (try dsimp only at hSw); go_simp; try with_reducible rfl
      try simp only [List.getElem_toArray, List.getElem_cons_succ, List.getElem_cons_zero, Act.put, List.setIfInBounds_toArray, List.set_cons_zero, List.set_cons_succ]
      refine wpAnyH_take (i := 20) (v := ?_) rfl (by kernel_rfl) (by kernel_rfl) (by kernel_rfl) (fun _ _ _ h => h) (Or.inl ⟨by rfl, ?_⟩) (by assumption) ?_
      rotate_left
      · intro w9 hSw; (try dsimp only at hSw); go_simp; try with_reducible rfl
      try simp only [List.getElem_toArray, List.getElem_cons_succ, List.getElem_cons_zero, Act.put, List.setIfInBounds_toArray, List.set_cons_zero, List.set_cons_succ]
      refine wpAnyH_ready (rs := [21]) (by kernel_rfl) (by simp) ?_
      refine AllReadyH.cons rfl (fun K hK => ?_) AllReadyH.nil
      clear hHeld
      go_simp
      refine hK.out _ _ ?_ (fun hHeld => ?_)
      · exact ⟨hc0x, hc0y⟩
      clear hK K
      try simp only [List.getElem_toArray, List.getElem_cons_succ, List.getElem_cons_zero, Act.put, List.setIfInBounds_toArray, List.set_cons_zero, List.set_cons_succ]
      refine wpAnyH_done (by kernel_rfl) ?_ _
      refine NoPanic.normal ?_
      go_wp2_with fail
      go_roundw
      case rel => exact ⟨k + 1, by omega, by go_num, HST.out, HBn.out⟩
      case measure => simp [intOf]; omega
    · obtain rfl : k = d := by omega
      have HB7 := Lib.hid (HB5.out.trans (hbel.mono (by omega)))
      have hlA9 : (A.drop 1).length = k := by rw [List.length_drop]; have := HLA.out; omega
      have hlB9 : (B.drop 1).length = k := by rw [List.length_drop]; have := HLB.out; omega
      have HRA := Lib.hid (show ints.Reads .i64 wr (some ⟨bA, oA, none⟩) (A.drop 1) from .inr ⟨bA, oA, rfl, by omega, fun j hj => by rw [drop_getD]; exact cell_below HX4.out (HAA.out j (by omega)) (by omega)⟩)
      have HRB := Lib.hid (show ints.Reads .i64 wr (some ⟨bB, oB, none⟩) (B.drop 1) from .inr ⟨bB, oB, rfl, by omega, fun j hj => by rw [drop_getD]; exact cell_below HX4.out (HBB.out j (by omega)) (by omega)⟩)
      have haL : ∀ j, j < A.length → -144 ≤ A.getD j 0 ∧ A.getD j 0 ≤ 144 := fun j hj => HMB.out.aa j (by have := HLA.out; omega)
      have hbL : ∀ j, j < B.length → -144 ≤ B.getD j 0 ∧ B.getD j 0 ≤ 144 := fun j hj => HMB.out.bb j (by have := HLB.out; omega)
      have hda := drop_dot haL (by have := HLA.out; omega)
      have hdb := drop_dot hbL (by have := HLB.out; omega)
      have HDA := Lib.hid (show ∀ wa : World, Below wr.heap.size wr wa → Calls Try.prog 86 #[.slice (some ⟨bA, oA, none⟩) k cA, .slice (some ⟨bA, oA, none⟩) k cA] wa (RetN (dot (A.drop 1) (A.drop 1)) wa) from fun wa hb => by
        have h9 := impl_dot (some ⟨bA, oA, none⟩) (A.drop 1) cA (some ⟨bA, oA, none⟩) (A.drop 1) cA wa (HRA.out.below hb) (HRA.out.below hb) (by omega) (Nat.le_refl _) (by omega) (drop_small haL)
        rw [hlA9] at h9
        exact h9.mono fun _ _ hh => ⟨hh.1, by obtain ⟨m, e⟩ := hh.2; rw [e]; exact ints.below_drewN (Below.refl _ _) m⟩)
      have HDB := Lib.hid (show ∀ wa : World, Below wr.heap.size wr wa → Calls Try.prog 86 #[.slice (some ⟨bB, oB, none⟩) k cB, .slice (some ⟨bB, oB, none⟩) k cB] wa (RetN (dot (B.drop 1) (B.drop 1)) wa) from fun wa hb => by
        have h9 := impl_dot (some ⟨bB, oB, none⟩) (B.drop 1) cB (some ⟨bB, oB, none⟩) (B.drop 1) cB wa (HRB.out.below hb) (HRB.out.below hb) (by omega) (Nat.le_refl _) (by omega) (drop_small hbL)
        rw [hlB9] at h9
        exact h9.mono fun _ _ hh => ⟨hh.1, by obtain ⟨m, e⟩ := hh.2; rw [e]; exact ints.below_drewN (Below.refl _ _) m⟩)
      have hMD := md_of HP16.out HQ16.out hda hdb
      have HOF := Lib.hid (show OwnI w.heap.size wr.heap.size wr (.slice (some ⟨w4.heap.size, 0, none⟩) k k) (mW k A B) from by
        rw [HWA.out]
        have h9 := hown
        rw [fil_all] at h9
        have h8 : OwnI w2.heap.size wr.heap.size wr (.slice (some ⟨w4.heap.size, 0, none⟩) (mk.mk f9 k).length k) (mk.mk f9 k) := OwnI.of (by rw [mk_length]; exact h9)
        rw [mk_length] at h8
        exact h8.mono (by omega) (Nat.le_refl _))
      clear hown hbel hda hdb haL hbL hlA9 hlB9 HO1
      generalize dot (A.drop 1) (A.drop 1) = da at *
      generalize dot (B.drop 1) (B.drop 1) = db at *
      obtain ⟨e1, e2, e3, e4, e5⟩ := hMD
      go_wp2_with fail
      refine (HDA.out wr (Below.refl _ _)).mono ?_
      rintro e' w7 ⟨rfl, hb⟩
      have HC7 := Lib.hid (hb)
      have s7 := hb.size
      clear hb
      go_wp2_with fail
      refine (HDB.out w7 HC7.out).mono ?_
      rintro e' w8 ⟨rfl, hb⟩
      have HC8 := Lib.hid (HC7.out.trans (hb.mono HC7.out.size))
      have s8 := hb.size
      clear hb
      have HF := Lib.hid (HPO.out _ _ (show RetINB (mW k A B) (mD A B) true w (.returned (.tuple #[.slice (some ⟨w4.heap.size, 0, none⟩) k k, .int .i64 (q * q * da - p * p * db), .bool true])) w8 from ⟨_, by rw [HDD.out], (HOF.out.below HC8.out).mono (Nat.le_refl _) HC8.out.size, HB7.out.trans (HC8.out.mono (by omega))⟩))
      go_wp2_with fail
      go_ret3
      exact HF.out
end Go.Proofs.Ytkbcofgigfnfaaa.meani
