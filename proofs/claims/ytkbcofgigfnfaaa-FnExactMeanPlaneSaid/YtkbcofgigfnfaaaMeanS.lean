/- The model's plane of two means. -/
import Derived.Test.YtkbcofgigfnfaaaMeanP
import Derived.Test.YtkbcofgigfnfaaaEven
import Derived.Test.YtkbcofgigfnfaaaRets
import Derived.Test.YtkbcofgigfnfaaaDots
import Derived.Deep.RegionHeld3
import Derived.Deep.DrawnRows
import Derived.Deep.AppendLies
namespace Go.Proofs.Ytkbcofgigfnfaaa.means
open Go.RowKit own pp nums fill range samplest samplesv sums width fitsp has meanp mk dots even
set_option linter.unusedVariables false
set_option linter.unusedSimpArgs false

/-- The first n numbers of a list lie at a place. -/
def At (w : World) (b o : Nat) (L : List Int) (n : Nat) : Prop := ∀ j, j < n → w.cell? ⟨b, o + j, none⟩ = some (.int .i64 (L.getD j 0))
theorem At.below {w w' : World} {b o n B : Nat} {L : List Int} (h : At w b o L n) (hb : Below B w w') (hB : b < B) : At w' b o L n := fun j hj => cell_below hb (h j hj) hB
theorem At.tail {w : World} {b o n : Nat} {L : List Int} (h : At w b o L (n + 1)) (hb : b < w.heap.size) (hl : L.length = n + 1) : ints.Reads .i64 w (some ⟨b, o + 1, none⟩) (L.drop 1) := by
  refine .inr ⟨b, o + 1, rfl, hb, fun j hj => ?_⟩
  rw [List.length_drop] at hj
  rw [show o + 1 + j = o + (j + 1) by omega, h (j + 1) (by omega), drop_getD]
/-- A list that is read, with its place. -/
theorem spec_sumsA (a : Option Addr) (rows : List (List Int)) (c : Nat) (a' : Option Addr) (zs : List Int) (c' : Nat) (p : Option Addr) (q : Nat) (y : Int) (w : World) (hr : grid.Reads w a rows) (hz : ints.Reads .i64 w a' zs) (hq : ints.Reads .i64 w p (ones rows.length)) (hS : SF rows zs (ones rows.length) (rows.getD 0 []).length) :
    Calls Try.prog 89 #[.agg #[.slice a rows.length c, .slice a' zs.length c'], .slice p rows.length q, .int .i64 y] w (fun e' w' => ∃ (b o cc : Nat), e' = .returned (.slice (some ⟨b, o, none⟩) ((rows.getD 0 []).length + 1) cc) ∧ b < w'.heap.size ∧ At w' b o (sA rows zs y) ((rows.getD 0 []).length + 1) ∧ (rows.getD 0 []).length + 1 ≤ cc ∧ Below w.heap.size w w') := by
  have h := spec_sums a rows c a' zs c' p (ones rows.length) q y w hr hz hq hS
  rw [ones_length] at h
  refine h.mono ?_
  rintro e' w' ⟨v, rfl, ho, hb⟩
  have hl : (sumsTo rows zs (ones rows.length) y (rows.getD 0 []).length rows.length).length = (rows.getD 0 []).length + 1 := sums_length _ _ _ _ _ _
  obtain ⟨aA, cA, rfl, hrA, hcA, _⟩ := ho.slice
  obtain ⟨b, o, rfl, hbl, hc⟩ := own1.reads_pos hrA (by omega)
  rw [hl] at hc hcA ⊢
  exact ⟨b, o, cA, rfl, hbl, hc, hcA, hb⟩
theorem cell_keep {W W' : World} (h : Below W.heap.size W W') {b o : Nat} {x : Value} (hx : W.cell? ⟨b, o, none⟩ = some x) : W'.cell? ⟨b, o, none⟩ = some x :=
  cell_below h hx (block_lt_of_cell (a := ⟨b, o, none⟩) hx)
theorem fro_keep {W W' : World} (h : Below W.heap.size W W') {b o o' : Nat} {x : Value} (hx : W.cell? ⟨b, o', none⟩ = some x) (hf : W.frozen? ⟨b, o, none⟩ = false) : W'.frozen? ⟨b, o, none⟩ = false :=
  fro_below h hf (block_lt_of_cell (a := ⟨b, o', none⟩) hx)
theorem cell_grow {W W' : World} {row : Option Nat} (h : W.grownBy W' row) {b o : Nat} {x : Value} (hx : W.cell? ⟨b, o, none⟩ = some x) (hne : ∀ g, row = some g → b ≠ g) : W'.cell? ⟨b, o, none⟩ = some x :=
  (World.cell?_of_block (h.block b (block_lt_of_cell (a := ⟨b, o, none⟩) hx) (fun e => hne b e.symm rfl))).trans hx
theorem fro_grow {W W' : World} {row : Option Nat} (h : W.grownBy W' row) {b o o' : Nat} {x : Value} (hx : W.cell? ⟨b, o', none⟩ = some x) (hf : W.frozen? ⟨b, o, none⟩ = false) (hne : ∀ g, row = some g → b ≠ g) : W'.frozen? ⟨b, o, none⟩ = false :=
  (World.frozen?_of_block (a := ⟨b, o, none⟩) (h.block b (block_lt_of_cell (a := ⟨b, o', none⟩) hx) (fun e => hne b e.symm rfl))).trans hf
theorem own_grow {W W' : World} {row : Option Nat} (h : W.grownBy W' row) {lo hi : Nat} {v : Value} {zs : List Int} (ho : OwnI lo hi W v zs) (hne : ∀ g, row = some g → g < lo ∨ hi ≤ g) : OwnI lo hi W' v zs :=
  ho.block fun g hg => h.block g (ho.lt hg).2.2 (fun e => by have := hne g e.symm; have := ho.lt hg; omega)
theorem cell_set2 {W : World} {b o b' o' : Nat} {x : Value} (hx : W.cell? ⟨b, o, none⟩ = some x) (hne : b ≠ b') (u : Value) : (W.setCell ⟨b', o', none⟩ u).cell? ⟨b, o, none⟩ = some x :=
  (World.cell?_of_block (Below.heap_setCell _ _ _ _ (by show b ≠ b'; exact hne))).trans hx
theorem grown_set (W : World) (b o : Nat) (u : Value) : W.grownBy (W.setCell ⟨b, o, none⟩ u) (some b) :=
  ⟨rfl, rfl, rfl, by rw [size_set]; exact Nat.le_refl _, fun k hk hne => Below.heap_setCell _ _ _ _ (fun e => hne (by rw [e]))⟩
theorem grown_trans {W W1 W2 : World} {row : Option Nat} (h : W.grownBy W1 row) (k : W1.grownBy W2 row) : W.grownBy W2 row :=
  ⟨k.os.trans h.os, k.tape.trans h.tape, k.output.trans h.output, Nat.le_trans h.size k.size, fun i hi hn => (k.block i (Nat.lt_of_lt_of_le hi h.size) hn).trans (h.block i hi hn)⟩
theorem own_narrow {W : World} {lo gg cap : Nat} {l : List Int} {z : Int} (h : W.ownsRow lo 3 1 (.slice (some ⟨gg, 0, none⟩) (l.length + 1) cap) (l.length + 1) (l.map (Value.int .i64) ++ [.int .i64 z])) : OwnI gg (gg + 1) W (.slice (some ⟨gg, 0, none⟩) (l.length + 1) cap) (l ++ [z]) := by
  have h2 : W.ownsRow lo 3 1 (.slice (some ⟨gg, 0, none⟩) (l.length + 1) cap) (l ++ [z]).length ((l ++ [z]).map (Value.int .i64)) := by simpa [List.map_append] using h
  exact ⟨ownsRow_base h2 (fun g e => by obtain rfl : gg = g := (by simpa [Value.ownBlock] using e); exact Nat.le_refl _), fun g e => by obtain rfl : gg = g := (by simpa [Value.ownBlock] using e); omega⟩
theorem own_put {W : World} {lo hi gg n cap : Nat} {l : List Int} (h : OwnI lo hi W (.slice (some ⟨gg, 0, none⟩) n cap) l) (hn : n = l.length) (k : Nat) (z : Int) : OwnI lo hi (W.setCell ⟨gg, k, none⟩ (.int .i64 z)) (.slice (some ⟨gg, 0, none⟩) n cap) (l.set k z) := by
  subst hn
  have := (h.1.stored k (.int .i64 z)).1
  rw [← List.map_set] at this
  exact ⟨by rw [List.length_set]; exact this, h.2⟩
theorem own_cell {W : World} {lo hi gg n cap : Nat} {l : List Int} (h : OwnI lo hi W (.slice (some ⟨gg, 0, none⟩) n cap) l) (hn : n = l.length) (k : Nat) (hk : k < l.length) : W.cell? ⟨gg, k, none⟩ = some (.int .i64 (l.getD k 0)) := by
  subst hn
  rw [h.1.cellAt k (by omega), List.getElem?_map, List.getElem?_eq_getElem hk, List.getD_eq_getElem?_getD, List.getElem?_eq_getElem hk]; rfl
theorem own_fro {W : World} {lo hi gg n cap : Nat} {l : List Int} (h : OwnI lo hi W (.slice (some ⟨gg, 0, none⟩) n cap) l) (hn : n = l.length) (k : Nat) : W.frozen? ⟨gg, k, none⟩ = false := by
  subst hn
  exact h.1.frozenAt k
set_option maxRecDepth 100000 in
set_option maxHeartbeats 1600000 in
theorem spec_mean_no (a : Option Addr) (rows : List (List Int)) (c : Nat) (a' : Option Addr) (zs : List Int) (c' : Nat) (w : World) (hr : grid.Reads w a rows) (hz : ints.Reads .i64 w a' zs) (hn : rows.length ≤ 1048576) (hk : zs.length ≤ 1048576) (hm : ∀ r ∈ rows, r.length ≤ 1048576) (h : mixB rows zs = false) :
    Calls Try.prog 36 #[.agg #[.slice a rows.length c, .slice a' zs.length c']] w (RetINB [] 0 false w) := by
  have Hhr := Lib.hid hr
  have Hhz := Lib.hid hz
  have Hhm := Lib.hid hm
  clear hr hz hm
  have HX := Lib.hid h
  clear h
  go_enter Try.func36, Try.ntmps36
  obtain ⟨wb1, hw1⟩ : ∃ wb1 : World, wb1 = w.alloc (.cells #[.slice a rows.length c, .slice a' zs.length c'] 29) := ⟨_, rfl⟩
  have z1 : wb1.heap.size = w.heap.size + 1 := by rw [hw1]; simp
  have x0_0 := (by rw [hw1]; exact cell_new _ _ _ rfl rfl : wb1.cell? ⟨w.heap.size, 0, none⟩ = some (.slice a rows.length c))
  have x0_1 := (by rw [hw1]; exact cell_new _ _ _ rfl rfl : wb1.cell? ⟨w.heap.size, 1, none⟩ = some (.slice a' zs.length c'))
  have HB0 := Lib.hid (show Below w.heap.size w wb1 by rw [hw1]; exact (Below.refl w.heap.size w).alloc (Nat.le_refl _) _)
  have s1 : w.heap.size + 1 ≤ wb1.heap.size := by omega
  have HZ1 := Lib.hid z1
  clear z1
  go_wp2_with fail
  rw [← hw1]
  clear hw1
  refine (spec_mixed a rows c a' zs c' wb1 (Hhr.out.below HB0.out) (Hhz.out.below HB0.out) hn hk Hhm.out false HX).mono ?_
  rintro e' w2 ⟨rfl, hb⟩
  replace x0_0 := cell_below hb x0_0 (by omega)
  replace x0_1 := cell_below hb x0_1 (by omega)
  have s2 := hb.size
  have HB2 := Lib.hid (HB0.out.trans (hb.mono HB0.out.size))
  clear hb
  go_wp2_with fail
  go_ret3
  exact ⟨_, rfl, (own_empty _).mono HB2.out.size (by simp), HB2.out.alloc HB2.out.size _⟩
set_option maxRecDepth 100000 in
set_option maxHeartbeats 1600000 in
theorem spec_mean_yes (a : Option Addr) (rows : List (List Int)) (c : Nat) (a' : Option Addr) (zs : List Int) (c' : Nat) (w : World) (hr : grid.Reads w a rows) (hz : ints.Reads .i64 w a' zs) (hn : rows.length ≤ 1048576) (hk : zs.length ≤ 1048576) (hm : ∀ r ∈ rows, r.length ≤ 1048576) (h : mixB rows zs = true) :
    Calls Try.prog 36 #[.agg #[.slice a rows.length c, .slice a' zs.length c']] w (RetINB (mW (rows.getD 0 []).length (sA rows zs 1) (sA rows zs (-1))) (mD (sA rows zs 1) (sA rows zs (-1))) true w) := by
  obtain ⟨i0, hi, hz0, hz1, hz2⟩ := info_parts mk.infoInt
  have Hhr := Lib.hid hr
  have Hhz := Lib.hid hz
  have Hhm := Lib.hid hm
  clear hr hz hm
  have HX := Lib.hid h
  have HMB := Lib.hid (mb_of h)
  have HSF := Lib.hid (mix_sf h)
  have hps := mix_dim h
  clear h
  go_enter Try.func36, Try.ntmps36
  obtain ⟨wb1, hw1⟩ : ∃ wb1 : World, wb1 = w.alloc (.cells #[.slice a rows.length c, .slice a' zs.length c'] 29) := ⟨_, rfl⟩
  have z1 : wb1.heap.size = w.heap.size + 1 := by rw [hw1]; simp
  have x0_0 := (by rw [hw1]; exact cell_new _ _ _ rfl rfl : wb1.cell? ⟨w.heap.size, 0, none⟩ = some (.slice a rows.length c))
  have x0_1 := (by rw [hw1]; exact cell_new _ _ _ rfl rfl : wb1.cell? ⟨w.heap.size, 1, none⟩ = some (.slice a' zs.length c'))
  have HB0 := Lib.hid (show Below w.heap.size w wb1 by rw [hw1]; exact (Below.refl w.heap.size w).alloc (Nat.le_refl _) _)
  have s1 : w.heap.size + 1 ≤ wb1.heap.size := by omega
  have HZ1 := Lib.hid z1
  clear z1
  go_wp2_with fail
  rw [← hw1]
  clear hw1
  refine (spec_mixed a rows c a' zs c' wb1 (Hhr.out.below HB0.out) (Hhz.out.below HB0.out) hn hk Hhm.out true HX).mono ?_
  rintro e' w2 ⟨rfl, hb⟩
  replace x0_0 := cell_below hb x0_0 (by omega)
  replace x0_1 := cell_below hb x0_1 (by omega)
  have s2 := hb.size
  have HB2 := Lib.hid (HB0.out.trans (hb.mono HB0.out.size))
  clear hb
  go_wp2_with fail
  refine (spec_ones a rows c a' zs c' w2 hps.2.1).mono ?_
  rintro e' w3 ⟨vO, rfl, hoO, hb⟩
  obtain ⟨aO, cO, rfl, hrO, _, _⟩ := hoO.slice
  replace x0_0 := cell_below hb x0_0 (by omega)
  replace x0_1 := cell_below hb x0_1 (by omega)
  have s3 := hb.size
  have HB3 := Lib.hid (HB2.out.trans (hb.mono HB2.out.size))
  have HRO := Lib.hid (show ints.Reads .i64 w3 aO (ones rows.length) from hrO)
  clear hb hoO hrO
  rw [show (evenL 1 rows.length).length = rows.length from even_length _ _]
  have HSM := Lib.hid (fun (y : Int) (wa : World) (hb : Below w3.heap.size w3 wa) => spec_sumsA a rows c a' zs c' aO cO y wa ((Hhr.out.below HB3.out).below hb) ((Hhz.out.below HB3.out).below hb) (HRO.out.below hb) HSF.out)
  obtain ⟨d, hd⟩ : ∃ d : Nat, d = (rows.getD 0 []).length := ⟨_, rfl⟩
  have HPO := Lib.hid (show ∀ (e' : Ending) (w' : World), RetINB (mW d (sA rows zs 1) (sA rows zs (-1))) (mD (sA rows zs 1) (sA rows zs (-1))) true w e' w' → RetINB (mW (rows.getD 0 []).length (sA rows zs 1) (sA rows zs (-1))) (mD (sA rows zs 1) (sA rows zs (-1))) true w e' w' from by rw [hd]; exact fun _ _ hh => hh)
  rw [← hd] at HMB HSM hps
  clear hd
  go_wp2_with fail
  refine wp_region_noPanic ?_
  refine wp_region_held_drew (S := fun w' => w'.cell? ⟨w.heap.size, 0, none⟩ = some (.slice a rows.length c) ∧ w'.cell? ⟨w.heap.size, 1, none⟩ = some (.slice a' zs.length c')) (by kernel_rfl) ?_ (fun hHeld => ?_)
  · exact ⟨x0_0, x0_1⟩
  refine wpAnyH_take (i := 0) (v := ?_) rfl (by kernel_rfl) (by kernel_rfl) (by kernel_rfl) (fun _ _ _ h => h) (Or.inl ⟨by rfl, ?_⟩) (by assumption) ?_
  rotate_left
  · intro w9 hSw; (try dsimp only at hSw); go_simp; try with_reducible rfl
  try simp only [List.getElem_toArray, List.getElem_cons_succ, List.getElem_cons_zero, Act.put, List.setIfInBounds_toArray, List.set_cons_zero, List.set_cons_succ]
  refine wpAnyH_take (i := 1) (v := ?_) rfl (by kernel_rfl) (by kernel_rfl) (by kernel_rfl) (fun _ _ _ h => h) (Or.inl ⟨by rfl, ?_⟩) (by assumption) ?_
  rotate_left
  · intro w9 hSw; (try dsimp only at hSw); go_simp; try with_reducible rfl
  try simp only [List.getElem_toArray, List.getElem_cons_succ, List.getElem_cons_zero, Act.put, List.setIfInBounds_toArray, List.set_cons_zero, List.set_cons_succ]
  refine wpAnyH_take (i := 3) (v := ?_) rfl (by kernel_rfl) (by kernel_rfl) (by kernel_rfl) (fun _ _ _ h => h) (Or.inl ⟨by rfl, ?_⟩) (by assumption) ?_
  rotate_left
  · intro w9 hSw; (try dsimp only at hSw); go_simp; try with_reducible rfl
  try simp only [List.getElem_toArray, List.getElem_cons_succ, List.getElem_cons_zero, Act.put, List.setIfInBounds_toArray, List.set_cons_zero, List.set_cons_succ]
  refine wpAnyH_take (i := 4) (v := ?_) rfl (by kernel_rfl) (by kernel_rfl) (by kernel_rfl) (fun _ _ _ h => h) (Or.inl ⟨by rfl, ?_⟩) (by assumption) ?_
  rotate_left
  · intro w9 hSw; (try dsimp only at hSw); go_simp; try with_reducible rfl
  try simp only [List.getElem_toArray, List.getElem_cons_succ, List.getElem_cons_zero, Act.put, List.setIfInBounds_toArray, List.set_cons_zero, List.set_cons_succ]
  refine wpAnyH_ready (rs := [2]) (by kernel_rfl) (by simp) ?_
  refine AllReadyH.cons rfl (fun K hK => ?_) AllReadyH.nil
  clear hHeld
  go_simp
  refine (HSM.out 1 _ (Below.refl _ _).drew).mono ?_
  rintro e' v1 ⟨bA, oA, cA, rfl, hlA, hatA, hcA, hb⟩
  have HAA := Lib.hid hatA
  clear hatA
  have HCv1 := Lib.hid ((Below.refl w3.heap.size w3).drew.trans hb)
  have sv1 := HCv1.out.size
  clear hb
  have mv1_0 := cell_below HCv1.out x0_0 (by omega)
  have mv1_1 := cell_below HCv1.out x0_1 (by omega)
  refine hK.out _ _ ?_ (fun hHeld => ?_)
  · exact ⟨mv1_0, mv1_1⟩
  clear hK K
  try simp only [List.getElem_toArray, List.getElem_cons_succ, List.getElem_cons_zero, Act.put, List.setIfInBounds_toArray, List.set_cons_zero, List.set_cons_succ]
  refine wpAnyH_ready (rs := [5]) (by kernel_rfl) (by simp) ?_
  refine AllReadyH.cons rfl (fun K hK => ?_) AllReadyH.nil
  clear hHeld
  go_simp
  refine (HSM.out (-1) _ HCv1.out).mono ?_
  rintro e' v2 ⟨bB, oB, cB, rfl, hlB, hatB, hcB, hb⟩
  have HBB := Lib.hid hatB
  have hAl := HAA.out.below hb hlA
  clear HAA
  have HAA := Lib.hid hAl
  have hlA2 := Nat.lt_of_lt_of_le hlA hb.size
  clear hlA hatB hAl
  have HCv2 := Lib.hid (HCv1.out.trans (hb.mono HCv1.out.size))
  have sv2 := HCv2.out.size
  clear hb
  have mv2_0 := cell_below HCv2.out x0_0 (by omega)
  have mv2_1 := cell_below HCv2.out x0_1 (by omega)
  refine hK.out _ _ ?_ (fun hHeld => ?_)
  · exact ⟨mv2_0, mv2_1⟩
  clear hK K
  try simp only [List.getElem_toArray, List.getElem_cons_succ, List.getElem_cons_zero, Act.put, List.setIfInBounds_toArray, List.set_cons_zero, List.set_cons_succ]
  refine wpAnyH_take (i := 6) (v := ?_) rfl (by kernel_rfl) (by kernel_rfl) (by kernel_rfl) (fun _ _ _ h => h) (Or.inl ⟨by rfl, ?_⟩) (by assumption) ?_
  rotate_left
  · intro w9 hSw; (try dsimp only at hSw); go_simp; try with_reducible rfl
  try simp only [List.getElem_toArray, List.getElem_cons_succ, List.getElem_cons_zero, Act.put, List.setIfInBounds_toArray, List.set_cons_zero, List.set_cons_succ]
  refine wpAnyH_take (i := 7) (v := ?_) rfl (by kernel_rfl) (by kernel_rfl) (by kernel_rfl) (fun _ _ _ h => h) (Or.inl ⟨by rfl, ?_⟩) (by assumption) ?_
  rotate_left
  · intro w9 hSw; (try dsimp only at hSw); go_simp; try with_reducible rfl
  try simp only [List.getElem_toArray, List.getElem_cons_succ, List.getElem_cons_zero, Act.put, List.setIfInBounds_toArray, List.set_cons_zero, List.set_cons_succ]
  refine wpAnyH_done (by kernel_rfl) ?_ _
  refine NoPanic.normal ?_
  have HB5 := Lib.hid (HB3.out.trans (HCv2.out.mono HB3.out.size))
  clear HSM
  generalize sA rows zs 1 = A at *
  generalize sA rows zs (-1) = B at *
  have hM := HMB.out
  have hp0 := HAA.out 0 (by omega)
  have hq0 := HBB.out 0 (by omega)
  have HP16 := Lib.hid hM.a0
  have HQ16 := Lib.hid hM.b0
  rw [Nat.add_zero] at hp0 hq0
  have hd4 := hM.d4
  have HLA := Lib.hid hM.la
  have HLB := Lib.hid hM.lb
  have HWA := Lib.hid (show mW d A B = mk.mk (mwAt A B) d from rfl)
  have HDD := Lib.hid (show mD A B = B.getD 0 0 * B.getD 0 0 * dot (A.drop 1) (A.drop 1) - A.getD 0 0 * A.getD 0 0 * dot (B.drop 1) (B.drop 1) from rfl)
  obtain ⟨f9, hf9⟩ : ∃ f9 : Nat → Int, f9 = mwAt A B := ⟨_, rfl⟩
  have HF9 := Lib.hid (show ∀ j, f9 j = 2 * A.getD 0 0 * B.getD 0 0 * (B.getD 0 0 * A.getD (j + 1) 0 - A.getD 0 0 * B.getD (j + 1) 0) from fun j => by rw [hf9]; rfl)
  rw [← hf9] at HWA
  clear hf9 hM
  obtain ⟨p, hp⟩ : ∃ p : Int, p = A.getD 0 0 := ⟨_, rfl⟩
  obtain ⟨q, hq⟩ : ∃ q : Int, q = B.getD 0 0 := ⟨_, rfl⟩
  rw [← hp] at hp0 HP16 HDD HF9
  rw [← hq] at hq0 HQ16 HDD HF9
  clear hp hq
  obtain ⟨n1, hn1⟩ : ∃ n1 : Nat, n1 = d + 1 := ⟨_, rfl⟩
  rw [← hn1] at HAA HBB hcA hcB ⊢
  have HN1 := Lib.hid hn1
  have hn15 : 2 ≤ n1 ∧ n1 ≤ 5 := by have := HMB.out.d1; omega
  clear hn1
  have iA0 : (0 : Int) < (n1 : Int) := by omega
  have iA1 : 0 < n1 := by omega
  go_wp2_with fail
  refine wp_region_noPanic ?_
  refine wp_region_held_drew (S := fun w' => w'.cell? ⟨bA, oA, none⟩ = some (.int .i64 p) ∧ w'.cell? ⟨bB, oB, none⟩ = some (.int .i64 q)) (by kernel_rfl) ?_ (fun hHeld => ?_)
  · exact ⟨hp0, hq0⟩
  have hb9 : Below v2.heap.size v2 v2.drew := (Below.refl _ _).drew
  have HC3 := Lib.hid hb9
  clear hb9
  generalize v2.drew = v3 at *
  refine wpAnyH_take (i := 0) (v := ?_) rfl (by kernel_rfl) (by kernel_rfl) (by kernel_rfl) (fun _ _ _ h => h) (Or.inl ⟨by rfl, ?_⟩) (by assumption) ?_
  rotate_left
  · intro w9 hSw; (try dsimp only at hSw); go_simp; try with_reducible rfl
  try simp only [List.getElem_toArray, List.getElem_cons_succ, List.getElem_cons_zero, Act.put, List.setIfInBounds_toArray, List.set_cons_zero, List.set_cons_succ]
  refine wpAnyH_take (i := 1) (v := ?_) rfl (by kernel_rfl) (by kernel_rfl) (by kernel_rfl) (fun _ _ _ h => h) (Or.inl ⟨by rfl, ?_⟩) (by assumption) ?_
  rotate_left
  · intro w9 hSw; (try dsimp only at hSw); go_simp; try with_reducible rfl
  try simp only [List.getElem_toArray, List.getElem_cons_succ, List.getElem_cons_zero, Act.put, List.setIfInBounds_toArray, List.set_cons_zero, List.set_cons_succ]
  refine wpAnyH_take (i := 2) (v := ?_) rfl (by kernel_rfl) (by kernel_rfl) (by kernel_rfl) (fun _ _ _ h => h) (Or.inl ⟨by rfl, ?_⟩) (by assumption) ?_
  rotate_left
  · intro w9 hSw; (try dsimp only at hSw); go_simp; try with_reducible rfl
  try simp only [List.getElem_toArray, List.getElem_cons_succ, List.getElem_cons_zero, Act.put, List.setIfInBounds_toArray, List.set_cons_zero, List.set_cons_succ]
  refine wpAnyH_take (i := 3) (v := ?_) rfl (by kernel_rfl) (by kernel_rfl) (by kernel_rfl) (fun _ _ _ h => h) (Or.inl ⟨by rfl, ?_⟩) (by assumption) ?_
  rotate_left
  · intro w9 hSw; (try dsimp only at hSw); go_simp; try with_reducible rfl
  try simp only [List.getElem_toArray, List.getElem_cons_succ, List.getElem_cons_zero, Act.put, List.setIfInBounds_toArray, List.set_cons_zero, List.set_cons_succ]
  refine wpAnyH_take (i := 4) (v := ?_) rfl (by kernel_rfl) (by kernel_rfl) (by kernel_rfl) (fun _ _ _ h => h) (Or.inl ⟨by rfl, ?_⟩) (by assumption) ?_
  rotate_left
  · intro w9 hSw; (try dsimp only at hSw); go_simp; try with_reducible rfl
  try simp only [List.getElem_toArray, List.getElem_cons_succ, List.getElem_cons_zero, Act.put, List.setIfInBounds_toArray, List.set_cons_zero, List.set_cons_succ]
  refine wpAnyH_take (i := 5) (v := ?_) rfl (by kernel_rfl) (by kernel_rfl) (by kernel_rfl) (fun _ _ _ h => h) (Or.inl ⟨by rfl, ?_⟩) (by assumption) ?_
  rotate_left
  · intro w9 hSw; (try dsimp only at hSw); go_simp; try with_reducible rfl
  try simp only [List.getElem_toArray, List.getElem_cons_succ, List.getElem_cons_zero, Act.put, List.setIfInBounds_toArray, List.set_cons_zero, List.set_cons_succ]
  refine wpAnyH_take (i := 7) (v := ?_) rfl (by kernel_rfl) (by kernel_rfl) (by kernel_rfl) (fun _ _ _ h => h) (Or.inl ⟨by rfl, ?_⟩) (by assumption) ?_
  rotate_left
  · intro w9 hSw; (try dsimp only at hSw); go_simp; try with_reducible rfl
  try simp only [List.getElem_toArray, List.getElem_cons_succ, List.getElem_cons_zero, Act.put, List.setIfInBounds_toArray, List.set_cons_zero, List.set_cons_succ]
  refine wpAnyH_take (i := 8) (v := ?_) rfl (by kernel_rfl) (by kernel_rfl) (by kernel_rfl) (fun _ _ _ h => h) (Or.inl ⟨by rfl, ?_⟩) (by assumption) ?_
  rotate_left
  · intro w9 hSw; (try dsimp only at hSw); go_simp; try with_reducible rfl
  try simp only [List.getElem_toArray, List.getElem_cons_succ, List.getElem_cons_zero, Act.put, List.setIfInBounds_toArray, List.set_cons_zero, List.set_cons_succ]
  refine wpAnyH_ready (rs := [6]) (by kernel_rfl) (by simp) ?_
  refine AllReadyH.cons rfl (fun K hK => ?_) AllReadyH.nil
  clear hHeld
  go_simp
  have hbz := below_alloc v3 (.cells #[] 3)
  have hown0 := (own_empty v3).1
  have HC4 := Lib.hid (HC3.out.trans (hbz.mono HC3.out.size))
  have s4 := HC4.out.size
  obtain ⟨G, hG⟩ : ∃ G : Nat, G = v3.heap.size := ⟨_, rfl⟩
  rw [← hG] at hown0 ⊢
  have hGl : v2.heap.size ≤ G := by have := HC3.out.size; omega
  have HCG := Lib.hid (show Below G v3 (v3.alloc (.cells #[] 3)) by rw [hG]; exact hbz)
  have hGs := HCG.out.size
  have hGv : G ≤ v3.heap.size ∧ v3.heap.size ≤ G := by omega
  generalize hwn : v3.alloc (.cells #[] 3) = v4 at *
  clear hwn hbz hG
  have HOW := Lib.hid hown0
  clear hown0
  have mp0 := cell_below HC4.out hp0 (by omega)
  have mq0 := cell_below HC4.out hq0 (by omega)
  refine hK.out _ _ ?_ (fun hHeld => ?_)
  · exact ⟨mp0, mq0⟩
  clear hK K
  try simp only [List.getElem_toArray, List.getElem_cons_succ, List.getElem_cons_zero, Act.put, List.setIfInBounds_toArray, List.set_cons_zero, List.set_cons_succ]
  refine wpAnyH_take (i := 9) (v := ?_) rfl (by kernel_rfl) (by kernel_rfl) (by kernel_rfl) (fun _ _ _ h => h) (Or.inl ⟨by rfl, ?_⟩) (by assumption) ?_
  rotate_left
  · intro w9 hSw; (try dsimp only at hSw); go_simp; try with_reducible rfl
  try simp only [List.getElem_toArray, List.getElem_cons_succ, List.getElem_cons_zero, Act.put, List.setIfInBounds_toArray, List.set_cons_zero, List.set_cons_succ]
  refine wpAnyH_done (by kernel_rfl) ?_ _
  refine NoPanic.normal ?_
  have HB6 := Lib.hid (HB5.out.trans (HC4.out.mono HB5.out.size))
  have hA4 := HAA.out.below HC4.out (by omega)
  have hB4 := HBB.out.below HC4.out (by omega)
  clear HAA HBB
  have HAA := Lib.hid hA4
  have HBB := Lib.hid hB4
  clear hA4 hB4 hp0 hq0 mp0 mq0
  go_wp2_with fail
  go_loopw [10, 11] (fun v i wr => ∃ k m : Nat, k ≤ n1 ∧ i = .int .i64 k ∧ Hid (k = m + 1) ∧ wr.ownsRow G 3 1 v m ((mk.mk f9 m).map (Value.int .i64)) ∧ Below G v4 wr) (fun _ i _ => n1 - (intOf i).toNat)
  case atStart => exact ⟨1, 0, by omega, rfl, rfl, HOW.out, (Below.refl v4.heap.size v4).mono (by omega)⟩
  case round =>
    obtain ⟨k, m, hk9, rfl, HKM, hown, hbel⟩ := hrel
    have HV := Lib.hid hown.lt
    have HOwr := Lib.hid hown
    have HBwr := Lib.hid hbel
    have hsz := hbel.size
    by_cases hlt : k < n1
    · have hcx := cell_below hbel (HAA.out k (by omega)) (by omega)
      have hcy := cell_below hbel (HBB.out k (by omega)) (by omega)
      have hMW := mw_of HP16.out HQ16.out (HMB.out.aa k (by have := HN1.out; omega)) (HMB.out.bb k (by have := HN1.out; omega))
      have HMK := Lib.hid (show mk.mk f9 (m + 1) = mk.mk f9 m ++ [2 * p * q * (q * A.getD k 0 - p * B.getD k 0)] by rw [mk_succ, HF9.out, HKM.out])
      have hbA : bA < wr.heap.size := by omega
      have hbB : bB < wr.heap.size := by omega
      have hbA2 : bA < G := by omega
      have hbB2 : bB < G := by omega
      have i1 : (0 : Int) ≤ (k : Int) := by omega
      have i2 : (k : Int) < (n1 : Int) := by omega
      have hm5 : m ≤ 5 := by have := HKM.out; omega
      clear hown hbel
      generalize A.getD k 0 = x at *
      generalize B.getD k 0 = y at *
      obtain ⟨e1, e2, e3, e4, e5, e6⟩ := hMW
      go_wp2_with fail
      refine wp_region_noPanic ?_
      refine wp_region_held_drew (S := fun w' => w'.cell? ⟨bA, oA + k, none⟩ = some (.int .i64 x) ∧ w'.cell? ⟨bB, oB + k, none⟩ = some (.int .i64 y)) (by kernel_rfl) ?_ (fun hHeld => ?_)
      · exact ⟨hcx, hcy⟩
      have hb9 : Below wr.heap.size wr wr.drew := (Below.refl _ _).drew
      have HD0 := Lib.hid hb9
      clear hb9
      generalize wr.drew = u0 at *
      refine wpAnyH_take (i := 0) (v := ?_) rfl (by kernel_rfl) (by kernel_rfl) (by kernel_rfl) (fun _ _ _ h => h) (Or.inl ⟨by rfl, ?_⟩) (by assumption) ?_
      rotate_left
      · intro w9 hSw; (try dsimp only at hSw); go_simp; try with_reducible rfl
      try simp only [List.getElem_toArray, List.getElem_cons_succ, List.getElem_cons_zero, Act.put, List.setIfInBounds_toArray, List.set_cons_zero, List.set_cons_succ]
      refine wpAnyH_take (i := 1) (v := ?_) rfl (by kernel_rfl) (by kernel_rfl) (by kernel_rfl) (fun _ _ _ h => h) (Or.inl ⟨by rfl, ?_⟩) (by assumption) ?_
      rotate_left
      · intro w9 hSw; (try dsimp only at hSw); go_simp; try with_reducible rfl
      try simp only [List.getElem_toArray, List.getElem_cons_succ, List.getElem_cons_zero, Act.put, List.setIfInBounds_toArray, List.set_cons_zero, List.set_cons_succ]
      refine wpAnyH_take (i := 2) (v := ?_) rfl (by kernel_rfl) (by kernel_rfl) (by kernel_rfl) (fun _ _ _ h => h) (Or.inl ⟨by rfl, ?_⟩) (by assumption) ?_
      rotate_left
      · intro w9 hSw; (try dsimp only at hSw); go_simp; try with_reducible rfl
      try simp only [List.getElem_toArray, List.getElem_cons_succ, List.getElem_cons_zero, Act.put, List.setIfInBounds_toArray, List.set_cons_zero, List.set_cons_succ]
      refine wpAnyH_take (i := 3) (v := ?_) rfl (by kernel_rfl) (by kernel_rfl) (by kernel_rfl) (fun _ _ _ h => h) (Or.inl ⟨by rfl, ?_⟩) (by assumption) ?_
      rotate_left
      · intro w9 hSw; (try dsimp only at hSw); go_simp; try with_reducible rfl
      try simp only [List.getElem_toArray, List.getElem_cons_succ, List.getElem_cons_zero, Act.put, List.setIfInBounds_toArray, List.set_cons_zero, List.set_cons_succ]
      refine wpAnyH_take (i := 4) (v := ?_) rfl (by kernel_rfl) (by kernel_rfl) (by kernel_rfl) (fun _ _ _ h => h) (Or.inl ⟨by rfl, ?_⟩) (by assumption) ?_
      rotate_left
      · intro w9 hSw; (try dsimp only at hSw); go_simp; try with_reducible rfl
      try simp only [List.getElem_toArray, List.getElem_cons_succ, List.getElem_cons_zero, Act.put, List.setIfInBounds_toArray, List.set_cons_zero, List.set_cons_succ]
      refine wpAnyH_take (i := 5) (v := ?_) rfl (by kernel_rfl) (by kernel_rfl) (by kernel_rfl) (fun _ _ _ h => h) (Or.inl ⟨by rfl, ?_⟩) (by assumption) ?_
      rotate_left
      · intro w9 hSw; (try dsimp only at hSw); go_simp; try with_reducible rfl
      try simp only [List.getElem_toArray, List.getElem_cons_succ, List.getElem_cons_zero, Act.put, List.setIfInBounds_toArray, List.set_cons_zero, List.set_cons_succ]
      refine wpAnyH_take (i := 6) (v := ?_) rfl (by kernel_rfl) (by kernel_rfl) (by kernel_rfl) (fun _ _ _ h => h) (Or.inl ⟨by rfl, ?_⟩) (by assumption) ?_
      rotate_left
      · intro w9 hSw; (try dsimp only at hSw); go_simp; try with_reducible rfl
      try simp only [List.getElem_toArray, List.getElem_cons_succ, List.getElem_cons_zero, Act.put, List.setIfInBounds_toArray, List.set_cons_zero, List.set_cons_succ]
      refine wpAnyH_take (i := 7) (v := ?_) rfl (by kernel_rfl) (by kernel_rfl) (by kernel_rfl) (fun _ _ _ h => h) (Or.inl ⟨by rfl, ?_⟩) (by assumption) ?_
      rotate_left
      · intro w9 hSw; (try dsimp only at hSw); go_simp; try with_reducible rfl
      try simp only [List.getElem_toArray, List.getElem_cons_succ, List.getElem_cons_zero, Act.put, List.setIfInBounds_toArray, List.set_cons_zero, List.set_cons_succ]
      refine wpAnyH_take (i := 8) (v := ?_) rfl (by kernel_rfl) (by kernel_rfl) (by kernel_rfl) (fun _ _ _ h => h) (Or.inl ⟨by rfl, ?_⟩) (by assumption) ?_
      rotate_left
      · intro w9 hSw; (try dsimp only at hSw); go_simp; try with_reducible rfl
      try simp only [List.getElem_toArray, List.getElem_cons_succ, List.getElem_cons_zero, Act.put, List.setIfInBounds_toArray, List.set_cons_zero, List.set_cons_succ]
      refine wpAnyH_take (i := 9) (v := ?_) rfl (by kernel_rfl) (by kernel_rfl) (by kernel_rfl) (fun _ _ _ h => h) (Or.inl ⟨by rfl, ?_⟩) (by assumption) ?_
      rotate_left
      · intro w9 hSw; (try dsimp only at hSw); go_simp; try with_reducible rfl
      try simp only [List.getElem_toArray, List.getElem_cons_succ, List.getElem_cons_zero, Act.put, List.setIfInBounds_toArray, List.set_cons_zero, List.set_cons_succ]
      refine wpAnyH_take (i := 10) (v := ?_) rfl (by kernel_rfl) (by kernel_rfl) (by kernel_rfl) (fun _ _ _ h => h) (Or.inl ⟨by rfl, ?_⟩) (by assumption) ?_
      rotate_left
      · intro w9 hSw; (try dsimp only at hSw); go_simp; try with_reducible rfl
      try simp only [List.getElem_toArray, List.getElem_cons_succ, List.getElem_cons_zero, Act.put, List.setIfInBounds_toArray, List.set_cons_zero, List.set_cons_succ]
      refine wpAnyH_take (i := 11) (v := ?_) rfl (by kernel_rfl) (by kernel_rfl) (by kernel_rfl) (fun _ _ _ h => h) (Or.inl ⟨by rfl, ?_⟩) (by assumption) ?_
      rotate_left
      · intro w9 hSw; (try dsimp only at hSw); go_simp; try with_reducible rfl
      try simp only [List.getElem_toArray, List.getElem_cons_succ, List.getElem_cons_zero, Act.put, List.setIfInBounds_toArray, List.set_cons_zero, List.set_cons_succ]
      refine wpAnyH_take (i := 12) (v := ?_) rfl (by kernel_rfl) (by kernel_rfl) (by kernel_rfl) (fun _ _ _ h => h) (Or.inl ⟨by rfl, ?_⟩) (by assumption) ?_
      rotate_left
      · intro w9 hSw; (try dsimp only at hSw); go_simp; try with_reducible rfl
      try simp only [List.getElem_toArray, List.getElem_cons_succ, List.getElem_cons_zero, Act.put, List.setIfInBounds_toArray, List.set_cons_zero, List.set_cons_succ]
      refine wpAnyH_take (i := 13) (v := ?_) rfl (by kernel_rfl) (by kernel_rfl) (by kernel_rfl) (fun _ _ _ h => h) (Or.inl ⟨by rfl, ?_⟩) (by assumption) ?_
      rotate_left
      · intro w9 hSw; (try dsimp only at hSw); go_simp; try with_reducible rfl
      try simp only [List.getElem_toArray, List.getElem_cons_succ, List.getElem_cons_zero, Act.put, List.setIfInBounds_toArray, List.set_cons_zero, List.set_cons_succ]
      refine wpAnyH_take (i := 14) (v := ?_) rfl (by kernel_rfl) (by kernel_rfl) (by kernel_rfl) (fun _ _ _ h => h) (Or.inl ⟨by rfl, ?_⟩) (by assumption) ?_
      rotate_left
      · intro w9 hSw; (try dsimp only at hSw); go_simp; try with_reducible rfl
      try simp only [List.getElem_toArray, List.getElem_cons_succ, List.getElem_cons_zero, Act.put, List.setIfInBounds_toArray, List.set_cons_zero, List.set_cons_succ]
      refine wpAnyH_take (i := 15) (v := ?_) rfl (by kernel_rfl) (by kernel_rfl) (by kernel_rfl) (fun _ _ _ h => h) (Or.inl ⟨by rfl, ?_⟩) (by assumption) ?_
      rotate_left
      · intro w9 hSw; (try dsimp only at hSw); go_simp; try with_reducible rfl
      try simp only [List.getElem_toArray, List.getElem_cons_succ, List.getElem_cons_zero, Act.put, List.setIfInBounds_toArray, List.set_cons_zero, List.set_cons_succ]
      refine wpAnyH_take (i := 16) (v := ?_) rfl (by kernel_rfl) (by kernel_rfl) (by kernel_rfl) (fun _ _ _ h => h) (Or.inl ⟨by rfl, ?_⟩) (by assumption) ?_
      rotate_left
      · intro w9 hSw; (try dsimp only at hSw); go_simp; try with_reducible rfl
      try simp only [List.getElem_toArray, List.getElem_cons_succ, List.getElem_cons_zero, Act.put, List.setIfInBounds_toArray, List.set_cons_zero, List.set_cons_succ]
      refine wpAnyH_take (i := 17) (v := ?_) rfl (by kernel_rfl) (by kernel_rfl) (by kernel_rfl) (fun _ _ _ h => h) (Or.inl ⟨by rfl, ?_⟩) (by assumption) ?_
      rotate_left
      · intro w9 hSw; (try dsimp only at hSw); go_simp; try with_reducible rfl
      try simp only [List.getElem_toArray, List.getElem_cons_succ, List.getElem_cons_zero, Act.put, List.setIfInBounds_toArray, List.set_cons_zero, List.set_cons_succ]
      refine wpAnyH_take (i := 18) (v := ?_) rfl (by kernel_rfl) (by kernel_rfl) (by kernel_rfl) (fun _ _ _ h => h) (Or.inl ⟨by rfl, ?_⟩) (by assumption) ?_
      rotate_left
      · intro w9 hSw; (try dsimp only at hSw); go_simp; try with_reducible rfl
      try simp only [List.getElem_toArray, List.getElem_cons_succ, List.getElem_cons_zero, Act.put, List.setIfInBounds_toArray, List.set_cons_zero, List.set_cons_succ]
      refine wpAnyH_ready (rs := [19]) (by kernel_rfl) (by simp) ?_
      refine AllReadyH.cons rfl (fun K hK => ?_) AllReadyH.nil
      clear hHeld
      go_simp
      have nx_0 : (u0.alloc (.cells #[.int .i64 (2 * p * q * (q * x - p * y))] 3)).cell? ⟨u0.heap.size, 0, none⟩ = some (.int .i64 (2 * p * q * (q * x - p * y))) := cell_new _ _ _ rfl rfl
      have hb := below_alloc u0 (.cells #[.int .i64 (2 * p * q * (q * x - p * y))] 3)
      have lt_nx := size_alloc' u0 (.cells #[.int .i64 (2 * p * q * (q * x - p * y))] 3)
      obtain ⟨Bnx, hBnx⟩ : ∃ Bnx : Nat, Bnx = u0.heap.size := ⟨_, rfl⟩
      rw [← hBnx] at nx_0 ⊢
      have hBl : wr.heap.size ≤ Bnx := by have := HD0.out.size; omega
      have HD1 := Lib.hid (HD0.out.trans (hb.mono HD0.out.size))
      generalize hwn : u0.alloc (.cells #[.int .i64 (2 * p * q * (q * x - p * y))] 3) = u1 at *
      clear hwn hb hBnx
      have sz1 := HD1.out.size
      have n0x := cell_below HD1.out hcx (by omega)
      have n0y := cell_below HD1.out hcy (by omega)
      refine hK.out _ _ ?_ (fun hHeld => ?_)
      · exact ⟨n0x, n0y⟩
      clear hK K
      try simp only [List.getElem_toArray, List.getElem_cons_succ, List.getElem_cons_zero, Act.put, List.setIfInBounds_toArray, List.set_cons_zero, List.set_cons_succ]
      refine wpAnyH_ready (rs := [20]) (by kernel_rfl) (by simp) ?_
      refine AllReadyH.cons rfl (fun K hK => ?_) AllReadyH.nil
      clear hHeld
      have how := ownsRow_block (w' := u1) HOwr.out (fun g hg => HD1.out.block g (HV.out g hg).2)
      have hrow : ∀ g, u10.ownBlock = some g → G ≤ g ∧ g < wr.heap.size := fun g e => HV.out g e
      refine step_append_lies _ (by rfl) _ _ _ (by rfl) G 3 i0 _ 1 8 Try.underlying23 hi hz0 hz1 hz2 rfl (by omega) u10 m ((mk.mk f9 m).map (Value.int .i64)) (by rfl) how ⟨Bnx, 0, none⟩ 1 1 [.int .i64 (2 * p * q * (q * x - p * y))] (by rfl) (by rfl) (fun j u hj => by (have h7 : j = 0 := by (have := (List.getElem?_eq_some_iff.1 hj).1; simp at this; exact this)); subst h7; simp at hj; subst hj; simpa [Addr.add] using nx_0) (by simp [Value.oneCell']) (by omega) (by unfold maxLen; omega) (by omega) (by omega) u1.heap.size rfl ?_
      intro gg gc u2 hown hg hat hlt9
      clear how
      have HO13 := Lib.hid hown
      have HD2 := Lib.hid (((HBwr.out.trans (HD1.out.mono (by omega)))).grown hg (by omega) (fun g e => (hrow g e).1))
      have n2x := cell_grow hg n0x (fun g e => by have := hrow g e; omega)
      have n2y := cell_grow hg n0y (fun g e => by have := hrow g e; omega)
      clear hown hg hat hrow
      refine hK.out _ _ ?_ (fun hHeld => ?_)
      · exact ⟨n2x, n2y⟩
      clear hK K
      try simp only [List.getElem_toArray, List.getElem_cons_succ, List.getElem_cons_zero, Act.put, List.setIfInBounds_toArray, List.set_cons_zero, List.set_cons_succ]
      refine wpAnyH_take (i := 21) (v := ?_) rfl (by kernel_rfl) (by kernel_rfl) (by kernel_rfl) (fun _ _ _ h => h) (Or.inl ⟨by rfl, ?_⟩) (by assumption) ?_
      rotate_left
      · intro w9 hSw; (try dsimp only at hSw); go_simp; try with_reducible rfl
      try simp only [List.getElem_toArray, List.getElem_cons_succ, List.getElem_cons_zero, Act.put, List.setIfInBounds_toArray, List.set_cons_zero, List.set_cons_succ]
      refine wpAnyH_done (by kernel_rfl) ?_ _
      refine NoPanic.normal ?_
      go_wp2_with fail
      go_roundw
      case rel => exact ⟨k + 1, m + 1, by omega, by go_num, by have := HKM.out; show k + 1 = m + 1 + 1; omega, by rw [HMK.out, List.map_append]; exact HO13.out, HD2.out⟩
      case measure => simp [intOf]; omega
    · obtain rfl : k = n1 := by omega
      have i2 : ¬ (k : Int) < (k : Int) := by omega
      have hmd : m = d := by have := HKM.out; have := HN1.out; omega
      have hk1 : k = d + 1 := HN1.out
      have hAt := HAA.out.below hbel (by omega)
      have hBt := HBB.out.below hbel (by omega)
      rw [hk1] at hAt hBt
      have HB7 := Lib.hid (HB6.out.trans (hbel.mono (by omega)))
      have HRA := Lib.hid (hAt.tail (by omega) HLA.out)
      have HRB := Lib.hid (hBt.tail (by omega) HLB.out)
      have hlA9 : (A.drop 1).length = k - 1 := by rw [List.length_drop]; have := HLA.out; omega
      have hlB9 : (B.drop 1).length = k - 1 := by rw [List.length_drop]; have := HLB.out; omega
      have haL : ∀ j, j < A.length → -144 ≤ A.getD j 0 ∧ A.getD j 0 ≤ 144 := fun j hj => HMB.out.aa j (by have := HLA.out; omega)
      have hbL : ∀ j, j < B.length → -144 ≤ B.getD j 0 ∧ B.getD j 0 ≤ 144 := fun j hj => HMB.out.bb j (by have := HLB.out; omega)
      have hda := drop_dot haL (by have := HLA.out; omega)
      have hdb := drop_dot hbL (by have := HLB.out; omega)
      have HDA := Lib.hid (show ∀ wa : World, Below wr.heap.size wr wa → Calls Try.prog 82 #[.slice (some ⟨bA, oA + 1, none⟩) (k - 1) (cA - 1), .slice (some ⟨bA, oA + 1, none⟩) (k - 1) (cA - 1)] wa (RetN (dot (A.drop 1) (A.drop 1)) wa) from fun wa hb => by
        have h9 := spec_dot (some ⟨bA, oA + 1, none⟩) (A.drop 1) (cA - 1) (some ⟨bA, oA + 1, none⟩) (A.drop 1) (cA - 1) wa (HRA.out.below hb) (HRA.out.below hb) (by omega) (Nat.le_refl _) (by omega) (drop_small haL)
        rw [hlA9] at h9
        exact h9.mono fun _ _ hh => ⟨hh.1, by obtain ⟨m, e⟩ := hh.2; rw [e]; exact ints.below_drewN (Below.refl _ _) m⟩)
      have HDB := Lib.hid (show ∀ wa : World, Below wr.heap.size wr wa → Calls Try.prog 82 #[.slice (some ⟨bB, oB + 1, none⟩) (k - 1) (cB - 1), .slice (some ⟨bB, oB + 1, none⟩) (k - 1) (cB - 1)] wa (RetN (dot (B.drop 1) (B.drop 1)) wa) from fun wa hb => by
        have h9 := spec_dot (some ⟨bB, oB + 1, none⟩) (B.drop 1) (cB - 1) (some ⟨bB, oB + 1, none⟩) (B.drop 1) (cB - 1) wa (HRB.out.below hb) (HRB.out.below hb) (by omega) (Nat.le_refl _) (by omega) (drop_small hbL)
        rw [hlB9] at h9
        exact h9.mono fun _ _ hh => ⟨hh.1, by obtain ⟨m, e⟩ := hh.2; rw [e]; exact ints.below_drewN (Below.refl _ _) m⟩)
      have hMD := md_of HP16.out HQ16.out hda hdb
      have HOF := Lib.hid (show OwnI w.heap.size wr.heap.size wr u10 (mW d A B) from by
        rw [HWA.out, ← hmd]
        exact (OwnI.of (by rw [mk_length]; exact hown)).mono (by omega) (Nat.le_refl _))
      clear hown hbel hda hdb haL hbL hlA9 hlB9 hAt hBt hk1 hmd
      have hcA1 : 1 ≤ cA := by omega
      have hk1i : (1 : Int) ≤ (k : Int) := by omega
      have hcA2 : ¬ (cA = 1) := by omega
      have hcB1 : 1 ≤ cB := by omega
      have hcB2 : ¬ (cB = 1) := by omega
      generalize dot (A.drop 1) (A.drop 1) = da at *
      generalize dot (B.drop 1) (B.drop 1) = db at *
      obtain ⟨e1, e2, e3, e4, e5⟩ := hMD
      go_wp2_with fail
      refine wp_region_noPanic ?_
      refine wp_region_held_drew (S := fun w' => True) (by kernel_rfl) ?_ (fun hHeld => ?_)
      · exact trivial
      refine wpAnyH_take (i := 0) (v := ?_) rfl (by kernel_rfl) (by kernel_rfl) (by kernel_rfl) (fun _ _ _ h => h) (Or.inl ⟨by rfl, ?_⟩) (by assumption) ?_
      rotate_left
      · intro w9 hSw; (try dsimp only at hSw); go_simp; try with_reducible rfl
      try simp only [List.getElem_toArray, List.getElem_cons_succ, List.getElem_cons_zero, Act.put, List.setIfInBounds_toArray, List.set_cons_zero, List.set_cons_succ]
      refine wpAnyH_take (i := 1) (v := ?_) rfl (by kernel_rfl) (by kernel_rfl) (by kernel_rfl) (fun _ _ _ h => h) (Or.inl ⟨by rfl, ?_⟩) (by assumption) ?_
      rotate_left
      · intro w9 hSw; (try dsimp only at hSw); go_simp; try with_reducible rfl
      try simp only [List.getElem_toArray, List.getElem_cons_succ, List.getElem_cons_zero, Act.put, List.setIfInBounds_toArray, List.set_cons_zero, List.set_cons_succ]
      refine wpAnyH_take (i := 2) (v := ?_) rfl (by kernel_rfl) (by kernel_rfl) (by kernel_rfl) (fun _ _ _ h => h) (Or.inl ⟨by rfl, ?_⟩) (by assumption) ?_
      rotate_left
      · intro w9 hSw; (try dsimp only at hSw); go_simp; try with_reducible rfl
      try simp only [List.getElem_toArray, List.getElem_cons_succ, List.getElem_cons_zero, Act.put, List.setIfInBounds_toArray, List.set_cons_zero, List.set_cons_succ]
      refine wpAnyH_take (i := 3) (v := ?_) rfl (by kernel_rfl) (by kernel_rfl) (by kernel_rfl) (fun _ _ _ h => h) (Or.inl ⟨by rfl, ?_⟩) (by assumption) ?_
      rotate_left
      · intro w9 hSw; (try dsimp only at hSw); go_simp; try with_reducible rfl
      try simp only [List.getElem_toArray, List.getElem_cons_succ, List.getElem_cons_zero, Act.put, List.setIfInBounds_toArray, List.set_cons_zero, List.set_cons_succ]
      refine wpAnyH_take (i := 4) (v := ?_) rfl (by kernel_rfl) (by kernel_rfl) (by kernel_rfl) (fun _ _ _ h => h) (Or.inl ⟨by rfl, ?_⟩) (by assumption) ?_
      rotate_left
      · intro w9 hSw; (try dsimp only at hSw); go_simp; try with_reducible rfl
      try simp only [List.getElem_toArray, List.getElem_cons_succ, List.getElem_cons_zero, Act.put, List.setIfInBounds_toArray, List.set_cons_zero, List.set_cons_succ]
      refine wpAnyH_take (i := 5) (v := ?_) rfl (by kernel_rfl) (by kernel_rfl) (by kernel_rfl) (fun _ _ _ h => h) (Or.inl ⟨by rfl, ?_⟩) (by assumption) ?_
      rotate_left
      · intro w9 hSw; (try dsimp only at hSw); go_simp; try with_reducible rfl
      try simp only [List.getElem_toArray, List.getElem_cons_succ, List.getElem_cons_zero, Act.put, List.setIfInBounds_toArray, List.set_cons_zero, List.set_cons_succ]
      refine wpAnyH_take (i := 6) (v := ?_) rfl (by kernel_rfl) (by kernel_rfl) (by kernel_rfl) (fun _ _ _ h => h) (Or.inl ⟨by rfl, ?_⟩) (by assumption) ?_
      rotate_left
      · intro w9 hSw; (try dsimp only at hSw); go_simp; try with_reducible rfl
      try simp only [List.getElem_toArray, List.getElem_cons_succ, List.getElem_cons_zero, Act.put, List.setIfInBounds_toArray, List.set_cons_zero, List.set_cons_succ]
      refine wpAnyH_take (i := 7) (v := ?_) rfl (by kernel_rfl) (by kernel_rfl) (by kernel_rfl) (fun _ _ _ h => h) (Or.inl ⟨by rfl, ?_⟩) (by assumption) ?_
      rotate_left
      · intro w9 hSw; (try dsimp only at hSw); go_simp; try with_reducible rfl
      try simp only [List.getElem_toArray, List.getElem_cons_succ, List.getElem_cons_zero, Act.put, List.setIfInBounds_toArray, List.set_cons_zero, List.set_cons_succ]
      refine wpAnyH_take (i := 10) (v := ?_) rfl (by kernel_rfl) (by kernel_rfl) (by kernel_rfl) (fun _ _ _ h => h) (Or.inl ⟨by rfl, ?_⟩) (by assumption) ?_
      rotate_left
      · intro w9 hSw; (try dsimp only at hSw); go_simp; try with_reducible rfl
      try simp only [List.getElem_toArray, List.getElem_cons_succ, List.getElem_cons_zero, Act.put, List.setIfInBounds_toArray, List.set_cons_zero, List.set_cons_succ]
      refine wpAnyH_take (i := 11) (v := ?_) rfl (by kernel_rfl) (by kernel_rfl) (by kernel_rfl) (fun _ _ _ h => h) (Or.inl ⟨by rfl, ?_⟩) (by assumption) ?_
      rotate_left
      · intro w9 hSw; (try dsimp only at hSw); go_simp; try with_reducible rfl
      try simp only [List.getElem_toArray, List.getElem_cons_succ, List.getElem_cons_zero, Act.put, List.setIfInBounds_toArray, List.set_cons_zero, List.set_cons_succ]
      refine wpAnyH_take (i := 12) (v := ?_) rfl (by kernel_rfl) (by kernel_rfl) (by kernel_rfl) (fun _ _ _ h => h) (Or.inl ⟨by rfl, ?_⟩) (by assumption) ?_
      rotate_left
      · intro w9 hSw; (try dsimp only at hSw); go_simp; try with_reducible rfl
      try simp only [List.getElem_toArray, List.getElem_cons_succ, List.getElem_cons_zero, Act.put, List.setIfInBounds_toArray, List.set_cons_zero, List.set_cons_succ]
      refine wpAnyH_take (i := 13) (v := ?_) rfl (by kernel_rfl) (by kernel_rfl) (by kernel_rfl) (fun _ _ _ h => h) (Or.inl ⟨by rfl, ?_⟩) (by assumption) ?_
      rotate_left
      · intro w9 hSw; (try dsimp only at hSw); go_simp; try with_reducible rfl
      try simp only [List.getElem_toArray, List.getElem_cons_succ, List.getElem_cons_zero, Act.put, List.setIfInBounds_toArray, List.set_cons_zero, List.set_cons_succ]
      refine wpAnyH_take (i := 14) (v := ?_) rfl (by kernel_rfl) (by kernel_rfl) (by kernel_rfl) (fun _ _ _ h => h) (Or.inl ⟨by rfl, ?_⟩) (by assumption) ?_
      rotate_left
      · intro w9 hSw; (try dsimp only at hSw); go_simp; try with_reducible rfl
      try simp only [List.getElem_toArray, List.getElem_cons_succ, List.getElem_cons_zero, Act.put, List.setIfInBounds_toArray, List.set_cons_zero, List.set_cons_succ]
      refine wpAnyH_take (i := 15) (v := ?_) rfl (by kernel_rfl) (by kernel_rfl) (by kernel_rfl) (fun _ _ _ h => h) (Or.inl ⟨by rfl, ?_⟩) (by assumption) ?_
      rotate_left
      · intro w9 hSw; (try dsimp only at hSw); go_simp; try with_reducible rfl
      try simp only [List.getElem_toArray, List.getElem_cons_succ, List.getElem_cons_zero, Act.put, List.setIfInBounds_toArray, List.set_cons_zero, List.set_cons_succ]
      refine wpAnyH_take (i := 16) (v := ?_) rfl (by kernel_rfl) (by kernel_rfl) (by kernel_rfl) (fun _ _ _ h => h) (Or.inl ⟨by rfl, ?_⟩) (by assumption) ?_
      rotate_left
      · intro w9 hSw; (try dsimp only at hSw); go_simp; try with_reducible rfl
      try simp only [List.getElem_toArray, List.getElem_cons_succ, List.getElem_cons_zero, Act.put, List.setIfInBounds_toArray, List.set_cons_zero, List.set_cons_succ]
      refine wpAnyH_ready (rs := [8]) (by kernel_rfl) (by simp) ?_
      refine AllReadyH.cons rfl (fun K hK => ?_) AllReadyH.nil
      clear hHeld
      go_simp
      refine (HDA.out _ (Below.refl _ _).drew).mono ?_
      rintro e' u1 ⟨rfl, hb⟩
      have HCu1 := Lib.hid ((Below.refl wr.heap.size wr).drew.trans hb)
      have su1 := HCu1.out.size
      clear hb
      refine hK.out _ _ ?_ (fun hHeld => ?_)
      · exact trivial
      clear hK K
      try simp only [List.getElem_toArray, List.getElem_cons_succ, List.getElem_cons_zero, Act.put, List.setIfInBounds_toArray, List.set_cons_zero, List.set_cons_succ]
      refine wpAnyH_take (i := 9) (v := ?_) rfl (by kernel_rfl) (by kernel_rfl) (by kernel_rfl) (fun _ _ _ h => h) (Or.inl ⟨by rfl, ?_⟩) (by assumption) ?_
      rotate_left
      · intro w9 hSw; (try dsimp only at hSw); go_simp; try with_reducible rfl
      try simp only [List.getElem_toArray, List.getElem_cons_succ, List.getElem_cons_zero, Act.put, List.setIfInBounds_toArray, List.set_cons_zero, List.set_cons_succ]
      refine wpAnyH_ready (rs := [17]) (by kernel_rfl) (by simp) ?_
      refine AllReadyH.cons rfl (fun K hK => ?_) AllReadyH.nil
      clear hHeld
      go_simp
      refine (HDB.out _ HCu1.out).mono ?_
      rintro e' u2 ⟨rfl, hb⟩
      have HCu2 := Lib.hid (HCu1.out.trans (hb.mono HCu1.out.size))
      have su2 := HCu2.out.size
      clear hb
      refine hK.out _ _ ?_ (fun hHeld => ?_)
      · exact trivial
      clear hK K
      try simp only [List.getElem_toArray, List.getElem_cons_succ, List.getElem_cons_zero, Act.put, List.setIfInBounds_toArray, List.set_cons_zero, List.set_cons_succ]
      refine wpAnyH_take (i := 18) (v := ?_) rfl (by kernel_rfl) (by kernel_rfl) (by kernel_rfl) (fun _ _ _ h => h) (Or.inl ⟨by rfl, ?_⟩) (by assumption) ?_
      rotate_left
      · intro w9 hSw; (try dsimp only at hSw); go_simp; try with_reducible rfl
      try simp only [List.getElem_toArray, List.getElem_cons_succ, List.getElem_cons_zero, Act.put, List.setIfInBounds_toArray, List.set_cons_zero, List.set_cons_succ]
      refine wpAnyH_take (i := 19) (v := ?_) rfl (by kernel_rfl) (by kernel_rfl) (by kernel_rfl) (fun _ _ _ h => h) (Or.inl ⟨by rfl, ?_⟩) (by assumption) ?_
      rotate_left
      · intro w9 hSw; (try dsimp only at hSw); go_simp; try with_reducible rfl
      try simp only [List.getElem_toArray, List.getElem_cons_succ, List.getElem_cons_zero, Act.put, List.setIfInBounds_toArray, List.set_cons_zero, List.set_cons_succ]
      refine wpAnyH_take (i := 20) (v := ?_) rfl (by kernel_rfl) (by kernel_rfl) (by kernel_rfl) (fun _ _ _ h => h) (Or.inl ⟨by rfl, ?_⟩) (by assumption) ?_
      rotate_left
      · intro w9 hSw; (try dsimp only at hSw); go_simp; try with_reducible rfl
      try simp only [List.getElem_toArray, List.getElem_cons_succ, List.getElem_cons_zero, Act.put, List.setIfInBounds_toArray, List.set_cons_zero, List.set_cons_succ]
      refine wpAnyH_take (i := 21) (v := ?_) rfl (by kernel_rfl) (by kernel_rfl) (by kernel_rfl) (fun _ _ _ h => h) (Or.inl ⟨by rfl, ?_⟩) (by assumption) ?_
      rotate_left
      · intro w9 hSw; (try dsimp only at hSw); go_simp; try with_reducible rfl
      try simp only [List.getElem_toArray, List.getElem_cons_succ, List.getElem_cons_zero, Act.put, List.setIfInBounds_toArray, List.set_cons_zero, List.set_cons_succ]
      refine wpAnyH_take (i := 22) (v := ?_) rfl (by kernel_rfl) (by kernel_rfl) (by kernel_rfl) (fun _ _ _ h => h) (Or.inl ⟨by rfl, ?_⟩) (by assumption) ?_
      rotate_left
      · intro w9 hSw; (try dsimp only at hSw); go_simp; try with_reducible rfl
      try simp only [List.getElem_toArray, List.getElem_cons_succ, List.getElem_cons_zero, Act.put, List.setIfInBounds_toArray, List.set_cons_zero, List.set_cons_succ]
      refine wpAnyH_done (by kernel_rfl) ?_ _
      refine NoPanic.normal ?_
      have HF := Lib.hid (HPO.out _ _ (show RetINB (mW d A B) (mD A B) true w (.returned (.tuple #[u10, .int .i64 (q * q * da - p * p * db), .bool true])) u2 from ⟨_, by rw [HDD.out], (HOF.out.below HCu2.out).mono (Nat.le_refl _) HCu2.out.size, HB7.out.trans (HCu2.out.mono (by omega))⟩))
      go_wp2_with fail
      go_ret3
      exact HF.out
end Go.Proofs.Ytkbcofgigfnfaaa.means
