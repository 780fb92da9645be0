/- The model's SidesSample where it succeeds. -/
import Derived.Test.YtoephhhofkmgjaaJuryI9
import Derived.Test.YtoephhhofkmgjaaOwn0
import Derived.Test.YtoephhhofkmgjaaOutBox
import Derived.Test.YtoephhhofkmgjaaRowsCopy
import Derived.Test.YtoephhhofkmgjaaStepA
import Derived.Deep.RegionHeld3
import Derived.Deep.DrawnRows
import Derived.Deep.AppendLies
import Derived.BigQuiet
namespace Go.Proofs.Ytoephhhofkmgjaa.sidesy
open Go.RowKit own pp nums jurs juri mk pwh samplesv samplest planes dots both sides ones own0 rowscopy stepa
set_option linter.unusedVariables false
set_option linter.unusedSimpArgs false

theorem rows_succ (g : List Int → List Int) (rows : List (List Int)) (k : Nat) (h : k < rows.length) : (rows.take (k + 1)).map g = (rows.take k).map g ++ [g (rows.getD k [])] := by
  rw [List.take_add_one, List.map_append, List.getElem?_eq_getElem h, List.getD_eq_getElem?_getD, List.getElem?_eq_getElem h]
  rfl
theorem rows_len (g : List Int → List Int) (rows : List (List Int)) (k : Nat) (h : k ≤ rows.length) : ((rows.take k).map g).length = k := by
  rw [List.length_map, List.length_take]; omega
set_option maxRecDepth 100000 in
set_option maxHeartbeats 1600000 in
theorem spec_sample_yes (a : Option Addr) (rows : List (List Int)) (c : Nat) (a' : Option Addr) (zs : List Int) (c' : Nat) (x : Option Addr) (ps : List (List Int × Int)) (d : Nat) (w : World) (hr : grid.Reads w a rows) (hz : ints.Reads .i64 w a' zs) (hx : ReadsJ w x ps) (hn : rows.length ≤ 1048576) (hk : zs.length ≤ 1048576) (hm : ∀ r ∈ rows, r.length ≤ 1048576) (hlen : ps.length ≤ 1048576) (hw : ∀ k, k < ps.length → (ps.getD k ([], 0)).1.length ≤ 1048576) (hj : juryB ps = true) (h4 : ps.length ≤ 4) (ho : bothB rows zs (ps.getD 0 ([], 0)).1 (ps.getD 0 ([], 0)).2 = true) :
    Calls Try.prog 51 #[.agg #[.slice a rows.length c, .slice a' zs.length c'], .slice x ps.length d] w (RetSB (rows.map (sidesL ps)) zs true w) := by
  obtain ⟨i0, hi, hz0, hz1, hz2⟩ := info_parts mk.infoInt
  obtain ⟨j0, hj0, hjz0, hjz1, hjz2⟩ := info_parts infoInts
  have Hhr := Lib.hid hr
  have Hhz := Lib.hid hz
  have Hhm := Lib.hid hm
  clear hr hz hm
  have HX := Lib.hid hx
  have HJ := Lib.hid hj
  have HW := Lib.hid hw
  have HO := Lib.hid ho
  have h1 : 0 < ps.length := by have := ((juryB_iff ps).1 hj).2.1; omega
  have i3 : (0 : Int) < (ps.length : Int) := by omega
  have gg : decide (4 < (ps.length : Int)) = false := decide_eq_false (by omega)
  have hw0 := hw 0 h1
  have h16 := (fit_of ho).2
  have HF := Lib.hid (fun i hi => fits_both hj ho i hi)
  have HSDD := Lib.hid (fun (k j : Nat) (hk9 : k < rows.length) (hj9 : j < ps.length) (p9 : Option Addr) (q9 : Nat) (rp : Option Addr) (rq : Nat) (wa : World) (hp9 : ints.Reads .i64 wa p9 (ps.getD j ([], 0)).1) (hrow : ints.Reads .i64 wa rp (rows.getD k [])) => (show Calls Try.prog 96 #[.agg #[.slice p9 (ps.getD j ([], 0)).1.length q9, .int .i64 (ps.getD j ([], 0)).2], .slice rp (rows.getD k []).length rq] wa (RetN (side (ps.getD j ([], 0)).1 (ps.getD j ([], 0)).2 (rows.getD k [])) wa) from by
    obtain ⟨f1, f2, f3⟩ := fits_both hj ho k hk9
    have f4 := f1 j hj9
    exact spec_side p9 _ q9 _ rp _ rq wa hp9 hrow (by omega) (Nat.le_of_eq f4.1) (by omega) f4.2))
  clear hx hj hw ho
  go_enter Try.func51, Try.ntmps51
  obtain ⟨wb1, hw1⟩ : ∃ wb1 : World, wb1 = w.alloc (.cells #[.slice a rows.length c, .slice a' zs.length c'] 59) := ⟨_, rfl⟩
  obtain ⟨wb2, hw2⟩ : ∃ wb2 : World, wb2 = wb1.alloc (.cells #[.slice none 0 0, .slice none 0 0] 59) := ⟨_, rfl⟩
  have z1 : wb1.heap.size = w.heap.size + 1 := by rw [hw1]; simp
  have z2 : wb2.heap.size = w.heap.size + 2 := by rw [hw2]; simp; omega
  have x0_0 := (by rw [hw2]; exact cell_old _ (by rw [hw1]; exact cell_new _ _ _ rfl rfl : wb1.cell? ⟨w.heap.size, 0, none⟩ = some (.slice a rows.length c)) : wb2.cell? ⟨w.heap.size, 0, none⟩ = some (.slice a rows.length c))
  have x0_1 := (by rw [hw2]; exact cell_old _ (by rw [hw1]; exact cell_new _ _ _ rfl rfl : wb1.cell? ⟨w.heap.size, 1, none⟩ = some (.slice a' zs.length c')) : wb2.cell? ⟨w.heap.size, 1, none⟩ = some (.slice a' zs.length c'))
  have x1_0 := (by rw [hw2]; exact cell_new _ _ _ z1.symm rfl : wb2.cell? ⟨w.heap.size + 1, 0, none⟩ = some (.slice none 0 0))
  have x1_1 := (by rw [hw2]; exact cell_new _ _ _ z1.symm rfl : wb2.cell? ⟨w.heap.size + 1, 1, none⟩ = some (.slice none 0 0))
  have HB0 := Lib.hid (show Below w.heap.size w wb2 by rw [hw2]; exact (show Below w.heap.size w wb1 by rw [hw1]; exact (Below.refl w.heap.size w).alloc (Nat.le_refl _) _).alloc (by omega) _)
  have s2 : w.heap.size + 2 ≤ wb2.heap.size := by omega
  have f1_0 := (by rw [hw2]; exact fro_new _ _ _ z1.symm : wb2.frozen? ⟨w.heap.size + 1, 0, none⟩ = false)
  have f1_1 := (by rw [hw2]; exact fro_new _ _ _ z1.symm : wb2.frozen? ⟨w.heap.size + 1, 1, none⟩ = false)
  have HZ2 := Lib.hid z2
  clear z1 z2
  go_wp2_with fail
  rw [← hw1, ← hw2]
  clear hw1 hw2
  obtain ⟨g, go, p, pq, hab, hbl, kc, kd, _, hrow⟩ := (HX.out.below HB0.out).at h1
  rw [Nat.zero_mul, Nat.add_zero] at kc kd
  have HROW := Lib.hid hrow
  subst hab
  clear hrow
  generalize hws0 : (ps.getD 0 ([], 0)).1 = ws at *
  generalize hb00 : (ps.getD 0 ([], 0)).2 = b at *
  clear hws0 hb00
  refine wp_region_noPanic ?_
  refine wp_region_held_drew (S := fun w' => w'.cell? ⟨w.heap.size, 0, none⟩ = some (.slice a rows.length c) ∧ w'.cell? ⟨w.heap.size, 1, none⟩ = some (.slice a' zs.length c') ∧ w'.cell? ⟨w.heap.size + 1, 0, none⟩ = some (.slice none 0 0) ∧ w'.cell? ⟨w.heap.size + 1, 1, none⟩ = some (.slice none 0 0) ∧ w'.cell? ⟨g, go, none⟩ = some (.slice p ws.length pq) ∧ w'.cell? ⟨g, go + 1, none⟩ = some (.int .i64 b)) (by kernel_rfl) ?_ (fun hHeld => ?_)
  · exact ⟨x0_0, x0_1, x1_0, x1_1, kc, kd⟩
  refine wpAnyH_take (i := 0) (v := ?_) rfl (by kernel_rfl) (by kernel_rfl) (by kernel_rfl) (fun _ _ _ h => h) (Or.inl ⟨by rfl, ?_⟩) (by assumption) ?_
  rotate_left
  · intro w9 hSw; (try dsimp only at hSw); go_simp; try with_reducible rfl
  try simp only [List.getElem_toArray, List.getElem_cons_succ, List.getElem_cons_zero, Act.put, List.setIfInBounds_toArray, List.set_cons_zero, List.set_cons_succ]
  refine wpAnyH_ready (rs := [1]) (by kernel_rfl) (by simp) ?_
  refine AllReadyH.cons rfl (fun K hK => ?_) AllReadyH.nil
  clear hHeld
  go_simp
  refine (spec_jury (some ⟨g, go, none⟩) ps d _ (HX.out.below (HB0.out.trans (Below.refl _ _).drew)) hlen HW.out true HJ).mono ?_
  rintro e v1 ⟨rfl, hb1⟩
  have HC1 := Lib.hid ((Below.refl wb2.heap.size wb2).drew.trans hb1)
  have hs1 := HC1.out.size
  have m0 := cell_below HC1.out x0_0 (by omega)
  have m1 := cell_below HC1.out x0_1 (by omega)
  have m2 := cell_below HC1.out x1_0 (by omega)
  have m3 := cell_below HC1.out x1_1 (by omega)
  have m4 := cell_below HC1.out kc (by omega)
  have m5 := cell_below HC1.out kd (by omega)
  clear hb1
  refine hK.out _ _ ?_ (fun hHeld => ?_)
  · exact ⟨m0, m1, m2, m3, m4, m5⟩
  clear hK K
  try simp only [List.getElem_toArray, List.getElem_cons_succ, List.getElem_cons_zero, Act.put, List.setIfInBounds_toArray, List.set_cons_zero, List.set_cons_succ]
  refine wpAnyH_take (i := 2) (v := ?_) rfl (by kernel_rfl) (by kernel_rfl) (by kernel_rfl) (fun _ _ _ h => h) (Or.inl ⟨by rfl, ?_⟩) (by assumption) ?_
  rotate_left
  · intro w9 hSw; (try dsimp only at hSw); go_simp; try with_reducible rfl
  try simp only [List.getElem_toArray, List.getElem_cons_succ, List.getElem_cons_zero, Act.put, List.setIfInBounds_toArray, List.set_cons_zero, List.set_cons_succ]
  refine wpAnyH_take (i := 3) (v := ?_) rfl (by kernel_rfl) (by kernel_rfl) (by kernel_rfl) (fun _ _ _ h => h) (Or.inl ⟨by rfl, ?_⟩) (by assumption) ?_
  rotate_left
  · intro w9 hSw; (try dsimp only at hSw); go_simp; try with_reducible rfl
  try simp only [List.getElem_toArray, List.getElem_cons_succ, List.getElem_cons_zero, Act.put, List.setIfInBounds_toArray, List.set_cons_zero, List.set_cons_succ]
  refine wpAnyH_take (i := 4) (v := ?_) rfl (by kernel_rfl) (by kernel_rfl) (by kernel_rfl) (fun _ _ _ h => h) (Or.inl ⟨by rfl, ?_⟩) (by assumption) ?_
  rotate_left
  · intro w9 hSw; (try dsimp only at hSw); go_simp; try with_reducible rfl
  try simp only [List.getElem_toArray, List.getElem_cons_succ, List.getElem_cons_zero, Act.put, List.setIfInBounds_toArray, List.set_cons_zero, List.set_cons_succ]
  refine wpAnyH_take (i := 5) (v := ?_) rfl (by kernel_rfl) (by kernel_rfl) (by kernel_rfl) (fun _ _ _ h => h) (Or.inl ⟨by rfl, ?_⟩) (by assumption) ?_
  rotate_left
  · intro w9 hSw; (try dsimp only at hSw); go_simp; try with_reducible rfl
  try simp only [List.getElem_toArray, List.getElem_cons_succ, List.getElem_cons_zero, Act.put, List.setIfInBounds_toArray, List.set_cons_zero, List.set_cons_succ]
  refine wpAnyH_take (i := 6) (v := ?_) rfl (by kernel_rfl) (by kernel_rfl) (by kernel_rfl) (fun _ _ _ h => h) (Or.inl ⟨by rfl, ?_⟩) (by assumption) ?_
  rotate_left
  · intro w9 hSw; (try dsimp only at hSw); go_simp; try with_reducible rfl
  try simp only [List.getElem_toArray, List.getElem_cons_succ, List.getElem_cons_zero, Act.put, List.setIfInBounds_toArray, List.set_cons_zero, List.set_cons_succ]
  refine wpAnyH_take (i := 7) (v := ?_) rfl (by kernel_rfl) (by kernel_rfl) (by kernel_rfl) (fun _ _ _ h => h) (Or.inl ⟨by rfl, ?_⟩) (by assumption) ?_
  rotate_left
  · intro w9 hSw; (try dsimp only at hSw); go_simp; try with_reducible rfl
  try simp only [List.getElem_toArray, List.getElem_cons_succ, List.getElem_cons_zero, Act.put, List.setIfInBounds_toArray, List.set_cons_zero, List.set_cons_succ]
  refine wpAnyH_take (i := 8) (v := ?_) rfl (by kernel_rfl) (by kernel_rfl) (by kernel_rfl) (fun _ _ _ h => h) (Or.inl ⟨by rfl, ?_⟩) (by assumption) ?_
  rotate_left
  · intro w9 hSw; (try dsimp only at hSw); go_simp; try with_reducible rfl
  try simp only [List.getElem_toArray, List.getElem_cons_succ, List.getElem_cons_zero, Act.put, List.setIfInBounds_toArray, List.set_cons_zero, List.set_cons_succ]
  refine wpAnyH_take (i := 9) (v := ?_) rfl (by kernel_rfl) (by kernel_rfl) (by kernel_rfl) (fun _ _ _ h => h) (Or.inl ⟨by rfl, ?_⟩) (by assumption) ?_
  rotate_left
  · intro w9 hSw; (try dsimp only at hSw); go_simp; try with_reducible rfl
  try simp only [List.getElem_toArray, List.getElem_cons_succ, List.getElem_cons_zero, Act.put, List.setIfInBounds_toArray, List.set_cons_zero, List.set_cons_succ]
  refine wpAnyH_take (i := 10) (v := ?_) rfl (by kernel_rfl) (by kernel_rfl) (by kernel_rfl) (fun _ _ _ h => h) (Or.inl ⟨by rfl, ?_⟩) (by assumption) ?_
  rotate_left
  · intro w9 hSw; (try dsimp only at hSw); go_simp; try with_reducible rfl
  try simp only [List.getElem_toArray, List.getElem_cons_succ, List.getElem_cons_zero, Act.put, List.setIfInBounds_toArray, List.set_cons_zero, List.set_cons_succ]
  refine wpAnyH_take (i := 11) (v := ?_) rfl (by kernel_rfl) (by kernel_rfl) (by kernel_rfl) (fun _ _ _ h => h) (Or.inl ⟨by rfl, ?_⟩) (by assumption) ?_
  rotate_left
  · intro w9 hSw; (try dsimp only at hSw); go_simp; try with_reducible rfl
  try simp only [List.getElem_toArray, List.getElem_cons_succ, List.getElem_cons_zero, Act.put, List.setIfInBounds_toArray, List.set_cons_zero, List.set_cons_succ]
  refine wpAnyH_take (i := 12) (v := ?_) rfl (by kernel_rfl) (by kernel_rfl) (by kernel_rfl) (fun _ _ _ h => h) (Or.inl ⟨by rfl, ?_⟩) (by assumption) ?_
  rotate_left
  · intro w9 hSw; (try dsimp only at hSw); go_simp; try with_reducible rfl
  try simp only [List.getElem_toArray, List.getElem_cons_succ, List.getElem_cons_zero, Act.put, List.setIfInBounds_toArray, List.set_cons_zero, List.set_cons_succ]
  refine wpAnyH_ready (rs := [13]) (by kernel_rfl) (by simp) ?_
  refine AllReadyH.cons rfl (fun K hK => ?_) AllReadyH.nil
  clear hHeld
  go_simp
  refine (spec_both a rows c a' zs c' p ws pq b v1 (Hhr.out.below (HB0.out.trans (HC1.out.mono HB0.out.size))) (Hhz.out.below (HB0.out.trans (HC1.out.mono HB0.out.size))) (HROW.out.below HC1.out) hn hk Hhm.out hw0 true HO).mono ?_
  rintro e v2 ⟨rfl, hb2⟩
  have HC2 := Lib.hid (HC1.out.trans (hb2.mono HC1.out.size))
  have hs2 := HC2.out.size
  have n0 := cell_below hb2 m0 (by omega)
  have n1 := cell_below hb2 m1 (by omega)
  have n2 := cell_below hb2 m2 (by omega)
  have n3 := cell_below hb2 m3 (by omega)
  have n4 := cell_below hb2 m4 (by omega)
  have n5 := cell_below hb2 m5 (by omega)
  clear hb2
  refine hK.out _ _ ?_ (fun hHeld => ?_)
  · exact ⟨n0, n1, n2, n3, n4, n5⟩
  clear hK K
  try simp only [List.getElem_toArray, List.getElem_cons_succ, List.getElem_cons_zero, Act.put, List.setIfInBounds_toArray, List.set_cons_zero, List.set_cons_succ]
  refine wpAnyH_take (i := 14) (v := ?_) rfl (by kernel_rfl) (by kernel_rfl) (by kernel_rfl) (fun _ _ _ h => h) (Or.inl ⟨by rfl, ?_⟩) (by assumption) ?_
  rotate_left
  · intro w9 hSw; (try dsimp only at hSw); go_simp; try with_reducible rfl
  try simp only [List.getElem_toArray, List.getElem_cons_succ, List.getElem_cons_zero, Act.put, List.setIfInBounds_toArray, List.set_cons_zero, List.set_cons_succ]
  refine wpAnyH_take (i := 15) (v := ?_) rfl (by kernel_rfl) (by kernel_rfl) (by kernel_rfl) (fun _ _ _ h => h) (Or.inl ⟨by rfl, ?_⟩) (by assumption) ?_
  rotate_left
  · intro w9 hSw; (try dsimp only at hSw); go_simp; try with_reducible rfl
  try simp only [List.getElem_toArray, List.getElem_cons_succ, List.getElem_cons_zero, Act.put, List.setIfInBounds_toArray, List.set_cons_zero, List.set_cons_succ]
  refine wpAnyH_done (by kernel_rfl) ?_ _
  refine NoPanic.normal ?_
  clear hHeld
  replace x1_0 := n2
  replace x1_1 := n3
  replace f1_0 := fro_below HC2.out f1_0 (by omega)
  replace f1_1 := fro_below HC2.out f1_1 (by omega)
  have HBV := Lib.hid (HB0.out.trans (HC2.out.mono HB0.out.size))
  have hbe := below_alloc v2 (.cells #[] 33)
  have e0 := cell_below hbe n0 (by omega)
  have e1 := cell_below hbe n1 (by omega)
  have HBE := Lib.hid hbe
  have sE : (v2.alloc (.cells #[] 33)).heap.size = v2.heap.size + 1 := by simp
  have HRE := Lib.hid (World.ownsRow_made (base := v2.heap.size) (e := 33) (size := 1) v2 #[] 0 (Nat.le_refl _) (by unfold maxLen; omega) rfl)
  have NN := Lib.hid (And.intro n0 (And.intro n1 (And.intro x1_0 (And.intro x1_1 (And.intro f1_0 f1_1)))))
  clear m0 m1 m2 m3 m4 m5 n4 n5 hbe n0 n1 n2 n3 x1_0 x1_1 f1_0 f1_1 x0_0 x0_1 kc kd
  go_wp2_with fail
  refine (spec_owns a' zs c' _ (Hhz.out.below (HBV.out.trans (HBE.out.mono (by have := HBV.out.size; omega)))) hk).mono ?_
  rintro e w3 ⟨vl, rfl, hol, hbl3⟩
  obtain ⟨p2, q2, hvl, _, _, _⟩ := hol.slice
  subst hvl
  have HOL := Lib.hid hol
  have hB3 : Below v2.heap.size v2 w3 := HBE.out.trans (hbl3.mono (by omega))
  have hrow3 := ownsRow_block (w' := w3) HRE.out (fun g hg => hbl3.block g (HRE.out.lt g hg).2)
  have s3 : v2.heap.size + 1 ≤ w3.heap.size := by have := hbl3.size; omega
  have HO0 := Lib.hid (show Out v2.heap.size w3.heap.size (w3.heap.size + 1) w3 (.slice (some ⟨v2.heap.size, 0, none⟩) 0 0) (.slice p2 zs.length q2) [] [] zs from ⟨hrow3, fun g e => by (obtain rfl : v2.heap.size = g := by simpa [Value.ownBlock] using e); exact ⟨by omega, by omega⟩, RowsOf.nil _ _ _, (HOL.out.mono (by omega) (Nat.le_refl _)).1, fun g e => by have := HOL.out.lt e; exact ⟨by omega, by omega⟩, fun g e hb => by obtain ⟨i, hi, _⟩ := hb; exact absurd hi (Nat.not_lt_zero _)⟩)
  clear hol hrow3
  obtain ⟨w4, hw4⟩ : ∃ w4 : World, w4 = w3.alloc (.cells #[.slice (some ⟨v2.heap.size, 0, none⟩) 0 0, .slice p2 zs.length q2] 59) := ⟨_, rfl⟩
  have c40 : w4.cell? ⟨w3.heap.size, 0, none⟩ = some (.slice (some ⟨v2.heap.size, 0, none⟩) 0 0) := by rw [hw4]; exact cell_new _ _ _ rfl rfl
  have c41 : w4.cell? ⟨w3.heap.size, 1, none⟩ = some (.slice p2 zs.length q2) := by rw [hw4]; exact cell_new _ _ _ rfl rfl
  have f40 : w4.frozen? ⟨w3.heap.size, 0, none⟩ = false := by rw [hw4]; exact fro_new _ _ _ rfl
  have z4 : w4.heap.size = w3.heap.size + 1 := by rw [hw4]; simp
  have HB4 := Lib.hid (show Below v2.heap.size v2 w4 by rw [hw4]; exact hB3.alloc (by omega) _)
  have HO4 := Lib.hid (show Out v2.heap.size w3.heap.size w4.heap.size w4 (.slice (some ⟨v2.heap.size, 0, none⟩) 0 0) (.slice p2 zs.length q2) [] [] zs by rw [z4]; exact HO0.out.below (by rw [hw4]; exact below_alloc _ _))
  have HBwv := Lib.hid HBV.out.size
  clear HO0 HOL hB3 hbl3
  go_wp2_with fail
  rw [← hw4]
  clear hw4
  go_loopw [7] (fun i wr => ∃ (k : Nat) (v : Value) (cs : List Value), k ≤ rows.length ∧ i = .int .i64 k ∧ Hid (Out v2.heap.size w3.heap.size wr.heap.size wr v (.slice p2 zs.length q2) cs ((rows.take k).map (sidesL ps)) zs) ∧ Hid (wr.cell? ⟨w3.heap.size, 0, none⟩ = some v ∧ wr.cell? ⟨w3.heap.size, 1, none⟩ = some (.slice p2 zs.length q2) ∧ wr.frozen? ⟨w3.heap.size, 0, none⟩ = false) ∧ Hid (Below v2.heap.size v2 wr) ∧ w3.heap.size < wr.heap.size) (fun i _ => rows.length - (intOf i).toNat)
  case atStart => exact ⟨0, _, _, Nat.zero_le _, rfl, HO4, Lib.hid ⟨c40, c41, f40⟩, HB4, by omega⟩
  case round =>
    obtain ⟨k, v, cs, hk9, rfl, HOo, HCe, HBo, hszo⟩ := hrel
    have hv2 := HBwv.out
    clear c40 c41 f40 HO4 HB4 z4
    have HBw := Lib.hid (HBV.out.trans (HBo.out.mono HBV.out.size))
    have yy := cell_below HBo.out NN.out.1 (by omega)
    have cc0 := HCe.out.1
    have ff0 := HCe.out.2.2
    by_cases hlt : k < rows.length
    · obtain ⟨bl, off, rp, rq, rfl, hbl, hc, hpq, hrow⟩ := (Hhr.out.below HBw.out).at hlt
      obtain ⟨r, hrr⟩ : ∃ r, rows.getD k [] = r := ⟨_, rfl⟩
      have HSDk := Lib.hid (fun (j : Nat) (hj9 : j < ps.length) p9 q9 wa hp9 (hrow : ints.Reads .i64 wa rp (rows.getD k [])) => HSDD.out k j hlt hj9 p9 q9 rp rq wa hp9 hrow)
      have HSR := Lib.hid (rows_succ (sidesL ps) rows k hlt)
      rw [hrr] at hc hrow HSDk HSR
      have HRr := Lib.hid hrow
      obtain ⟨f9, hf9⟩ : ∃ f9 : Nat → Int, f9 = fun j => side (ps.getD j ([], 0)).1 (ps.getD j ([], 0)).2 r := ⟨_, rfl⟩
      have HF9 := Lib.hid (show mk.mk f9 ps.length = sidesL ps r by rw [hf9]; rfl)
      have HFj := Lib.hid (show ∀ j, side (ps.getD j ([], 0)).1 (ps.getD j ([], 0)).2 r = f9 j by intro j; rw [hf9])
      have HSL := Lib.hid (sidesL_length ps r)
      clear hrr hrow hpq hf9 Hhr
      generalize hwq : wr = wq at *
      clear hwq wr
      have hown0 := (World.ownsRow_made (base := wq.heap.size) (e := 3) (size := 1) wq #[] 0 (Nat.le_refl _) (by unfold maxLen; omega) rfl)
      have hb0 := below_alloc wq (.cells #[] 3)
      go_wp2_with fail
      go_loopw [8, 9] (fun v i wr => ∃ j : Nat, j ≤ ps.length ∧ i = .int .i64 j ∧ wr.ownsRow wq.heap.size 3 1 v j ((mk.mk f9 j).map (Value.int .i64)) ∧ Below wq.heap.size wq wr) (fun _ i _ => ps.length - (intOf i).toNat)
      case atStart => exact ⟨0, Nat.zero_le _, rfl, hown0, hb0⟩
      case round =>
        obtain ⟨j, hj9, rfl, hownj, hbelj⟩ := hrel
        have HO := Lib.hid hownj
        have HBj := Lib.hid hbelj
        have hszj := hbelj.size
        have y0 := cell_below hbelj yy (by omega)
        replace hc := cell_below hbelj hc hbl
        clear hown0 hb0 hownj hbelj yy
        by_cases hltj : j < ps.length
        · obtain ⟨g1, go1, pj, pqj, hab, hgl, kj, dj, _, hrowj⟩ := (HX.out.below (HBw.out.trans (HBj.out.mono HBw.out.size))).at hltj
          have e1 : g1 = g ∧ go1 = go := by simp at hab; exact ⟨hab.1.symm, hab.2.symm⟩
          rw [e1.1, e1.2] at kj dj
          rw [e1.1] at hgl
          clear hab e1
          have HSD := Lib.hid (fun wa (hB : Below wr.heap.size wr wa) => HSDk.out j hltj pj pqj wa (hrowj.below hB) ((HRr.out.below HBj.out).below hB))
          have HM := Lib.hid (mk.mk_succ f9 j)
          rw [HFj.out j] at HSD
          have hbll : bl < wr.heap.size := by omega
          have hww : w.heap.size < wr.heap.size := by omega
          have i1 : (0 : Int) ≤ (j : Int) := by omega
          have i2 : (j : Int) < (ps.length : Int) := by omega
          have i4 : (0 : Int) ≤ (k : Int) := by omega
          have i5 : (k : Int) < (rows.length : Int) := by omega
          clear hrowj HFj HSDk HF9
          generalize (ps.getD j ([], 0)).1 = wsj at *
          generalize (ps.getD j ([], 0)).2 = bj at *
          generalize f9 j = sj at *
          go_wp2_with fail
          refine wp_region_noPanic ?_
          refine wp_region_held_drew (S := fun w' => w'.cell? ⟨g, go + j * 2, none⟩ = some (.slice pj wsj.length pqj) ∧ w'.cell? ⟨g, go + j * 2 + 1, none⟩ = some (.int .i64 bj) ∧ w'.cell? ⟨w.heap.size, 0, none⟩ = some (.slice (some ⟨bl, off, none⟩) rows.length c) ∧ w'.cell? ⟨bl, off + k, none⟩ = some (.slice rp r.length rq)) (by kernel_rfl) ?_ (fun hHeld => ?_)
          · exact ⟨kj, dj, y0, hc⟩
          refine wpAnyH_take (i := 0) (v := ?_) rfl (by kernel_rfl) (by kernel_rfl) (by kernel_rfl) (fun _ _ _ h => h) (Or.inl ⟨by rfl, ?_⟩) (by assumption) ?_
          rotate_left
          · intro w9 hSw; (try dsimp only at hSw); go_simp; try with_reducible rfl
          try simp only [List.getElem_toArray, List.getElem_cons_succ, List.getElem_cons_zero, Act.put, List.setIfInBounds_toArray, List.set_cons_zero, List.set_cons_succ]
          refine wpAnyH_take (i := 1) (v := ?_) rfl (by kernel_rfl) (by kernel_rfl) (by kernel_rfl) (fun _ _ _ h => h) (Or.inl ⟨by rfl, ?_⟩) (by assumption) ?_
          rotate_left
          · intro w9 hSw; (try dsimp only at hSw); go_simp; try with_reducible rfl
          try simp only [List.getElem_toArray, List.getElem_cons_succ, List.getElem_cons_zero, Act.put, List.setIfInBounds_toArray, List.set_cons_zero, List.set_cons_succ]
          refine wpAnyH_take (i := 2) (v := ?_) rfl (by kernel_rfl) (by kernel_rfl) (by kernel_rfl) (fun _ _ _ h => h) (Or.inl ⟨by rfl, ?_⟩) (by assumption) ?_
          rotate_left
          · intro w9 hSw; (try dsimp only at hSw); go_simp; try with_reducible rfl
          try simp only [List.getElem_toArray, List.getElem_cons_succ, List.getElem_cons_zero, Act.put, List.setIfInBounds_toArray, List.set_cons_zero, List.set_cons_succ]
          refine wpAnyH_take (i := 3) (v := ?_) rfl (by kernel_rfl) (by kernel_rfl) (by kernel_rfl) (fun _ _ _ h => h) (Or.inl ⟨by rfl, ?_⟩) (by assumption) ?_
          rotate_left
          · intro w9 hSw; (try dsimp only at hSw); go_simp; try with_reducible rfl
          try simp only [List.getElem_toArray, List.getElem_cons_succ, List.getElem_cons_zero, Act.put, List.setIfInBounds_toArray, List.set_cons_zero, List.set_cons_succ]
          refine wpAnyH_take (i := 4) (v := ?_) rfl (by kernel_rfl) (by kernel_rfl) (by kernel_rfl) (fun _ _ _ h => h) (Or.inl ⟨by rfl, ?_⟩) (by assumption) ?_
          rotate_left
          · intro w9 hSw; (try dsimp only at hSw); go_simp; try with_reducible rfl
          try simp only [List.getElem_toArray, List.getElem_cons_succ, List.getElem_cons_zero, Act.put, List.setIfInBounds_toArray, List.set_cons_zero, List.set_cons_succ]
          refine wpAnyH_take (i := 5) (v := ?_) rfl (by kernel_rfl) (by kernel_rfl) (by kernel_rfl) (fun _ _ _ h => h) (Or.inl ⟨by rfl, ?_⟩) (by assumption) ?_
          rotate_left
          · intro w9 hSw; (try dsimp only at hSw); go_simp; try with_reducible rfl
          try simp only [List.getElem_toArray, List.getElem_cons_succ, List.getElem_cons_zero, Act.put, List.setIfInBounds_toArray, List.set_cons_zero, List.set_cons_succ]
          refine wpAnyH_take (i := 6) (v := ?_) rfl (by kernel_rfl) (by kernel_rfl) (by kernel_rfl) (fun _ _ _ h => h) (Or.inl ⟨by rfl, ?_⟩) (by assumption) ?_
          rotate_left
          · intro w9 hSw; (try dsimp only at hSw); go_simp; try with_reducible rfl
          try simp only [List.getElem_toArray, List.getElem_cons_succ, List.getElem_cons_zero, Act.put, List.setIfInBounds_toArray, List.set_cons_zero, List.set_cons_succ]
          refine wpAnyH_take (i := 7) (v := ?_) rfl (by kernel_rfl) (by kernel_rfl) (by kernel_rfl) (fun _ _ _ h => h) (Or.inl ⟨by rfl, ?_⟩) (by assumption) ?_
          rotate_left
          · intro w9 hSw; (try dsimp only at hSw); go_simp; try with_reducible rfl
          try simp only [List.getElem_toArray, List.getElem_cons_succ, List.getElem_cons_zero, Act.put, List.setIfInBounds_toArray, List.set_cons_zero, List.set_cons_succ]
          refine wpAnyH_take (i := 8) (v := ?_) rfl (by kernel_rfl) (by kernel_rfl) (by kernel_rfl) (fun _ _ _ h => h) (Or.inl ⟨by rfl, ?_⟩) (by assumption) ?_
          rotate_left
          · intro w9 hSw; (try dsimp only at hSw); go_simp; try with_reducible rfl
          try simp only [List.getElem_toArray, List.getElem_cons_succ, List.getElem_cons_zero, Act.put, List.setIfInBounds_toArray, List.set_cons_zero, List.set_cons_succ]
          refine wpAnyH_take (i := 9) (v := ?_) rfl (by kernel_rfl) (by kernel_rfl) (by kernel_rfl) (fun _ _ _ h => h) (Or.inl ⟨by rfl, ?_⟩) (by assumption) ?_
          rotate_left
          · intro w9 hSw; (try dsimp only at hSw); go_simp; try with_reducible rfl
          try simp only [List.getElem_toArray, List.getElem_cons_succ, List.getElem_cons_zero, Act.put, List.setIfInBounds_toArray, List.set_cons_zero, List.set_cons_succ]
          refine wpAnyH_ready (rs := [10]) (by kernel_rfl) (by simp) ?_
          refine AllReadyH.cons rfl (fun K hK => ?_) AllReadyH.nil
          clear hHeld
          go_simp
          refine (HSD.out wr.drew (Below.refl _ _).drew).mono ?_
          rintro e v8 ⟨rfl, hb8⟩
          have HC8 := Lib.hid ((Below.refl wr.heap.size wr).drew.trans hb8)
          have hs8 := HC8.out.size
          have m0 := cell_below HC8.out kj hgl
          have m1 := cell_below HC8.out dj hgl
          have m2 := cell_below HC8.out y0 (by omega)
          have m3 := cell_below HC8.out hc hbll
          clear hb8
          refine hK.out _ _ ?_ (fun hHeld => ?_)
          · exact ⟨m0, m1, m2, m3⟩
          clear hK K
          try simp only [List.getElem_toArray, List.getElem_cons_succ, List.getElem_cons_zero, Act.put, List.setIfInBounds_toArray, List.set_cons_zero, List.set_cons_succ]
          refine wpAnyH_ready (rs := [11]) (by kernel_rfl) (by simp) ?_
          refine AllReadyH.cons rfl (fun K hK => ?_) AllReadyH.nil
          clear hHeld
          go_simp
          have HB9 := Lib.hid (below_alloc v8 (.cells #[.int .i64 sj] 3))
          have z0 := cell_one_new v8 (.int .i64 sj) 3
          have hs9 := size_alloc' v8 (.cells #[.int .i64 sj] 3)
          have q0 := cell_below HB9.out m0 (by omega)
          have q1 := cell_below HB9.out m1 (by omega)
          have q2' := cell_below HB9.out m2 (by omega)
          have q3 := cell_below HB9.out m3 (by omega)
          have HZ0 := Lib.hid z0
          generalize hw9 : v8.alloc (.cells #[.int .i64 sj] 3) = v9 at *
          clear hw9 z0
          refine hK.out _ _ ?_ (fun hHeld => ?_)
          · exact ⟨q0, q1, q2', q3⟩
          clear hK K
          try simp only [List.getElem_toArray, List.getElem_cons_succ, List.getElem_cons_zero, Act.put, List.setIfInBounds_toArray, List.set_cons_zero, List.set_cons_succ]
          refine wpAnyH_ready (rs := [12]) (by kernel_rfl) (by simp) ?_
          refine AllReadyH.cons rfl (fun K hK => ?_) AllReadyH.nil
          clear hHeld
          have HX9 := Lib.hid (HC8.out.trans (HB9.out.mono hs8))
          have hvb := fun g (e : u8.ownBlock = some g) => HO.out.lt g e
          have hro := ownsRow_block (w' := v9) HO.out (fun g hg => HX9.out.block g (hvb g hg).2)
          refine step_append_any (by rfl) _ _ 33 (by rfl) wq.heap.size 3 i0 (.int .i64 0) 1 8 Try.underlying33 hi hz0 hz1 hz2 (by rfl) (by decide) u8 j ((mk.mk f9 j).map (Value.int .i64)) (by rfl) hro ⟨v8.heap.size, 0, none⟩ 1 1 [.int .i64 sj] (by rfl) (by rfl) HZ0.out (by simp [Value.oneCell']) (by unfold maxLen; omega) (by omega) (by omega) ?_
          intro un4 v4 hown4 hgrow4 hat4
          have HOi := Lib.hid hown4
          have HBi := Lib.hid (show Below wq.heap.size wq v4 from (HBj.out.trans (HX9.out.mono hszj)).grown hgrow4 (by omega) (fun g e => (hvb g e).1))
          have hn4 : ∀ g, g < wq.heap.size → v4.heap[g]? = v9.heap[g]? := fun g h1 => hgrow4.block g (by omega) (fun e => by have h2 := hvb g e.symm; omega)
          have r0 := (World.cell?_of_block (hn4 g (by omega))).trans q0
          have r1 := (World.cell?_of_block (hn4 g (by omega))).trans q1
          have r2 := (World.cell?_of_block (hn4 w.heap.size (by omega))).trans q2'
          have r3 := (World.cell?_of_block (hn4 bl (by omega))).trans q3
          clear hown4 hgrow4 hat4 hvb hro hn4
          refine hK.out _ _ ?_ (fun hHeld => ?_)
          · exact ⟨r0, r1, r2, r3⟩
          clear hK K
          try simp only [List.getElem_toArray, List.getElem_cons_succ, List.getElem_cons_zero, Act.put, List.setIfInBounds_toArray, List.set_cons_zero, List.set_cons_succ]
          refine wpAnyH_take (i := 13) (v := ?_) rfl (by kernel_rfl) (by kernel_rfl) (by kernel_rfl) (fun _ _ _ h => h) (Or.inl ⟨by rfl, ?_⟩) (by assumption) ?_
          rotate_left
          · intro w9 hSw; (try dsimp only at hSw); go_simp; try with_reducible rfl
          try simp only [List.getElem_toArray, List.getElem_cons_succ, List.getElem_cons_zero, Act.put, List.setIfInBounds_toArray, List.set_cons_zero, List.set_cons_succ]
          refine wpAnyH_done (by kernel_rfl) ?_ _
          refine NoPanic.normal ?_
          clear hHeld r0 r1 r2 r3 m0 m1 m2 m3 q0 q1 q2' q3
          go_wp2_with fail
          go_roundw
          case rel => exact ⟨j + 1, by omega, by go_num, by rw [HM.out, List.map_append]; exact HOi.out, HBi.out⟩
          case measure => simp [intOf]; omega
        · obtain rfl : j = ps.length := by omega
          have hoi : OwnI wq.heap.size wr.heap.size wr u8 (sidesL ps r) := ⟨by rw [HSL.out, ← HF9.out]; exact HO.out, fun g hg => (HO.out.lt g hg).2⟩
          obtain ⟨pn, qn, hvn, _, _, _⟩ := hoi.slice
          subst hvn
          have HOI := Lib.hid hoi
          have HOo2 := Lib.hid (HOo.out.below HBj.out)
          have HBo2 := Lib.hid (HBo.out.trans (HBj.out.mono (by have := HBo.out.size; omega)))
          have HRl := Lib.hid (rows_len (sidesL ps) rows k (by omega))
          replace cc0 := cell_below HBj.out cc0 (by omega)
          have cc1 := cell_below HBj.out HCe.out.2.1 (by omega)
          replace ff0 := fro_below HBj.out ff0 (by omega)
          have hv4 : v2.heap.size ≤ wr.heap.size := by have := HBo2.out.size; omega
          clear hoi HO HF9 HFj HSDk hc y0
          generalize (rows.take k).map (sidesL ps) = RR at *
          generalize sidesL ps r = sr at *
          go_wp2_with (at_builtin; refine wpList_append_lies _ rfl _ _ 41 rfl v2.heap.size 33 j0 (.slice none 0 0) 1 24 Try.underlying41 hj0 hjz0 hjz1 hjz2 rfl (by decide) v RR.length cs rfl (HOo2.out.1.alloc _) ⟨wr.heap.size, 0, none⟩ 1 1 [.slice pn sr.length qn] rfl rfl (cell_one_new _ _ _) (by simp [Value.oneCell']) (by omega) (by have := HRl.out; unfold maxLen; omega) (by have := HRl.out; omega) (by simp; omega) (wr.heap.size + 1) (by simp) ?_; intro gg cap w5 hown5 hgrow5 hat5 hlt5; refine Hid.out ?_)
          refine Lib.hid ?_
          have t0 := hgrow5.cell (cell_old _ cc0) (fun e => (HOo2.out.2.1 _ e.symm).1 rfl)
          have t1 := hgrow5.cell (cell_old _ cc1) (fun e => (HOo2.out.2.1 _ e.symm).1 rfl)
          have t2 := (hgrow5.frozen_far ⟨w3.heap.size, 0, none⟩ (by simp; omega) (fun e => (HOo2.out.2.1 _ e.symm).1 rfl)).trans (fro_below (below_alloc _ _) ff0 (by omega))
          have HO5 := Lib.hid (Out.row HOo2.out HOI.out hszj (by omega) hgrow5 hown5 hat5 hlt5)
          have HB5 := Lib.hid ((HBo2.out.alloc hv4 (.cells #[.slice pn sr.length qn] 33)).grown hgrow5 (by simp; omega) (fun g e => (HOo2.out.1.lt g e).1))
          have s5 : w3.heap.size < w5.heap.size := by have := hgrow5.size; simp at this; omega
          clear hown5 hgrow5 hat5 hlt5
          go_wp2_with fail
          go_roundw
          case rel => exact ⟨k + 1, _, _, by omega, by go_num, by rw [HSR.out]; exact Lib.hid (by rw [size_set]; exact HO5.out.set 0 _), Lib.hid ⟨World.cell?_setCell_same _ _ _ t0, (World.cell?_setCell_other _ _ _ _ (by simp)).trans t1, by rw [World.frozen?_setCell]; exact t2⟩, Lib.hid (HB5.out.setCell (by show v2.heap.size ≤ w3.heap.size; omega) _), by rw [size_set]; exact s5⟩
          case measure => simp [intOf]; omega
    · obtain rfl : k = rows.length := by omega
      have cc1 := HCe.out.2.1
      have x1_0 := cell_below HBo.out NN.out.2.2.1 (by omega)
      have x1_1 := cell_below HBo.out NN.out.2.2.2.1 (by omega)
      have f1_0 := fro_below HBo.out NN.out.2.2.2.2.1 (by omega)
      have f1_1 := fro_below HBo.out NN.out.2.2.2.2.2 (by omega)
      have HG := Lib.hid (show OwnS v2.heap.size wr.heap.size wr v (.slice p2 zs.length q2) (rows.map (sidesL ps)) zs from by have := HOo.out.toS (by omega); rw [List.take_length] at this; exact this)
      obtain ⟨pv, qv, hvv, _, _, _⟩ := HG.out.grid.slice
      subst hvv
      have hRl : (rows.map (sidesL ps)).length = rows.length := by simp
      generalize rows.map (sidesL ps) = RR at *
      clear HOo HCe
      go_wp2_with fail
      refine bodyPost_ret (v := .tuple #[.agg #[.slice pv RR.length qv, .slice p2 zs.length q2], .bool true]) (by simp [results, Try.results51, go_sem, x1_0, x1_1, hRl]) rfl ⟨_, _, rfl, ?_, ?_⟩
      · simp only [size_set]; exact ((HG.out.set (by simp; omega) _).set (by simp; omega) _).mono (by omega) (Nat.le_refl _)
      · exact (HBw.out.setCell (by simp) _).setCell (by simp) _
end Go.Proofs.Ytoephhhofkmgjaa.sidesy
