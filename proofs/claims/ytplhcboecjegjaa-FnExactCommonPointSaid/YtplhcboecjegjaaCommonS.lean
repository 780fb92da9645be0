/- The walk of the model's CommonPoint. -/
import Derived.Test.YtplhcboecjegjaaCommonP
import Derived.Test.YtplhcboecjegjaaPairFns
import Derived.Deep.RegionHeld3
import Derived.Deep.DrawnRows
import Derived.Deep.AppendLies
namespace Go.Proofs.Ytplhcboecjegjaa.commons
open Go.RowKit own pp nums own1 samplesv samplest fill range sums same cert gcdw cutw commonp
set_option linter.unusedVariables false
attribute [local go_sem ↓] Go.wp_at_zero Go.wp_at_succ
set_option linter.unusedSimpArgs false

theorem infoA : (Try.prog.info? 131).map (fun i => (i.zero, i.size, i.bytes)) = some (some (.agg #[.int .i64 0, .int .i64 0]), 2, 16) := by kernel_rfl
theorem own_snoc {W : World} {lo m : Nat} {v : Value} {ps : List (Int × Int)} {x : Int × Int} (hl : ps.length = m) (h : W.ownsRow lo 131 2 v (m + 1) ((flatP ps).map (Value.int .i64) ++ [.int .i64 x.1, .int .i64 x.2])) : OwnA lo W.heap.size W v (ps ++ [x]) := by
  subst hl
  refine OwnA.of ?_
  rw [List.length_append, flat_snoc, List.map_append]
  exact h
theorem cell_keep {W W' : World} (h : Below W.heap.size W W') {b o : Nat} {x : Value} (hx : W.cell? ⟨b, o, none⟩ = some x) : W'.cell? ⟨b, o, none⟩ = some x :=
  cell_below h hx (block_lt_of_cell (a := ⟨b, o, none⟩) hx)
theorem fro_keep {W W' : World} (h : Below W.heap.size W W') {b o o' : Nat} {x : Value} (hx : W.cell? ⟨b, o', none⟩ = some x) (hf : W.frozen? ⟨b, o, none⟩ = false) : W'.frozen? ⟨b, o, none⟩ = false :=
  fro_below h hf (block_lt_of_cell (a := ⟨b, o', none⟩) hx)
theorem cell_grow {W W' : World} {row : Option Nat} (h : W.grownBy W' row) {b o : Nat} {x : Value} (hx : W.cell? ⟨b, o, none⟩ = some x) (hne : ∀ g, row = some g → b ≠ g) : W'.cell? ⟨b, o, none⟩ = some x :=
  (World.cell?_of_block (h.block b (block_lt_of_cell (a := ⟨b, o, none⟩) hx) (fun e => hne b e.symm rfl))).trans hx
theorem fro_grow {W W' : World} {row : Option Nat} (h : W.grownBy W' row) {b o o' : Nat} {x : Value} (hx : W.cell? ⟨b, o', none⟩ = some x) (hf : W.frozen? ⟨b, o, none⟩ = false) (hne : ∀ g, row = some g → b ≠ g) : W'.frozen? ⟨b, o, none⟩ = false :=
  (World.frozen?_of_block (a := ⟨b, o, none⟩) (h.block b (block_lt_of_cell (a := ⟨b, o', none⟩) hx) (fun e => hne b e.symm rfl))).trans hf
theorem own_grow {W W' : World} {row : Option Nat} (h : W.grownBy W' row) {lo hi : Nat} {v : Value} {zs : List Int} (ho : OwnI lo hi W v zs) (hne : ∀ g, row = some g → g < lo ∨ hi ≤ g) : OwnI lo hi W' v zs :=
  ho.block fun g hg => h.block g (ho.lt hg).2.2 (fun e => by have := hne g e.symm; have := ho.lt hg; omega)
theorem cell_set2 {W : World} {b o b' o' : Nat} {x : Value} (hx : W.cell? ⟨b, o, none⟩ = some x) (hne : b ≠ b') (u : Value) : (W.setCell ⟨b', o', none⟩ u).cell? ⟨b, o, none⟩ = some x :=
  (World.cell?_of_block (Below.heap_setCell _ _ _ _ (by show b ≠ b'; exact hne))).trans hx
theorem grown_set (W : World) (b o : Nat) (u : Value) : W.grownBy (W.setCell ⟨b, o, none⟩ u) (some b) :=
  ⟨rfl, rfl, rfl, by rw [size_set]; exact Nat.le_refl _, fun k hk hne => Below.heap_setCell _ _ _ _ (fun e => hne (by rw [e]))⟩
theorem grown_trans {W W1 W2 : World} {row : Option Nat} (h : W.grownBy W1 row) (k : W1.grownBy W2 row) : W.grownBy W2 row :=
  ⟨k.os.trans h.os, k.tape.trans h.tape, k.output.trans h.output, Nat.le_trans h.size k.size, fun i hi hn => (k.block i (Nat.lt_of_lt_of_le hi h.size) hn).trans (h.block i hi hn)⟩
theorem own_narrow {W : World} {lo gg cap : Nat} {l : List Int} {z : Int} (h : W.ownsRow lo 3 1 (.slice (some ⟨gg, 0, none⟩) (l.length + 1) cap) (l.length + 1) (l.map (Value.int .i64) ++ [.int .i64 z])) : OwnI gg (gg + 1) W (.slice (some ⟨gg, 0, none⟩) (l.length + 1) cap) (l ++ [z]) := by
  have h2 : W.ownsRow lo 3 1 (.slice (some ⟨gg, 0, none⟩) (l.length + 1) cap) (l ++ [z]).length ((l ++ [z]).map (Value.int .i64)) := by simpa [List.map_append] using h
  exact ⟨ownsRow_base h2 (fun g e => by obtain rfl : gg = g := (by simpa [Value.ownBlock] using e); exact Nat.le_refl _), fun g e => by obtain rfl : gg = g := (by simpa [Value.ownBlock] using e); omega⟩
theorem own_put {W : World} {lo hi gg n cap : Nat} {l : List Int} (h : OwnI lo hi W (.slice (some ⟨gg, 0, none⟩) n cap) l) (hn : n = l.length) (k : Nat) (z : Int) : OwnI lo hi (W.setCell ⟨gg, k, none⟩ (.int .i64 z)) (.slice (some ⟨gg, 0, none⟩) n cap) (l.set k z) := by
  subst hn
  have := (h.1.stored k (.int .i64 z)).1
  rw [← List.map_set] at this
  exact ⟨by rw [List.length_set]; exact this, h.2⟩
theorem own_cell {W : World} {lo hi gg n cap : Nat} {l : List Int} (h : OwnI lo hi W (.slice (some ⟨gg, 0, none⟩) n cap) l) (hn : n = l.length) (k : Nat) (hk : k < l.length) : W.cell? ⟨gg, k, none⟩ = some (.int .i64 (l.getD k 0)) := by
  subst hn
  rw [h.1.cellAt k (by omega), List.getElem?_map, List.getElem?_eq_getElem hk, List.getD_eq_getElem?_getD, List.getElem?_eq_getElem hk]; rfl
theorem own_fro {W : World} {lo hi gg n cap : Nat} {l : List Int} (h : OwnI lo hi W (.slice (some ⟨gg, 0, none⟩) n cap) l) (hn : n = l.length) (k : Nat) : W.frozen? ⟨gg, k, none⟩ = false := by
  subst hn
  exact h.1.frozenAt k
set_option maxRecDepth 100000 in
set_option maxHeartbeats 4000000 in
theorem spec_no (a : Option Addr) (rows : List (List Int)) (c : Nat) (a' : Option Addr) (zs : List Int) (c' : Nat) (p : Option Addr) (ls : List Int) (q : Nat) (w : World) (hr : grid.Reads w a rows) (hz : ints.Reads .i64 w a' zs) (hq : ints.Reads .i64 w p ls) (hn : rows.length ≤ 1048576) (hk : zs.length ≤ 1048576) (hm : ∀ r ∈ rows, r.length ≤ 1048576) (hw : ls.length ≤ 1048576) (h1 : Hid (sampleB rows zs = false)) :
    Calls Try.prog 53 #[.agg #[.slice a rows.length c, .slice a' zs.length c'], .slice p ls.length q] w (RetAB [] false w) := by
  have HMM := Lib.hid hm
  clear hm
  have Hhr := Lib.hid hr
  have Hhz := Lib.hid hz
  have Hhq := Lib.hid hq
  clear hr hz hq
  go_enter Try.func53, Try.ntmps53
  go_wp2_with fail
  have x0_0 : (w.alloc (.cells #[.slice a rows.length c, .slice a' zs.length c'] 55)).cell? ⟨w.heap.size, 0, none⟩ = some (.slice a rows.length c) := cell_new _ _ _ (by simp) rfl
  have x0_1 : (w.alloc (.cells #[.slice a rows.length c, .slice a' zs.length c'] 55)).cell? ⟨w.heap.size, 1, none⟩ = some (.slice a' zs.length c') := cell_new _ _ _ (by simp) rfl
  have HB0 := Lib.hid (below_alloc w (.cells #[.slice a rows.length c, .slice a' zs.length c'] 55))
  replace x0_0 := cell_old (.cells #[] 131) x0_0
  replace x0_1 := cell_old (.cells #[] 131) x0_1
  replace HB0 := Lib.hid (HB0.out.alloc (by simp) (.cells #[] 131))
  have s0 : w.heap.size + 2 ≤ ((w.alloc (.cells #[.slice a rows.length c, .slice a' zs.length c'] 55)).alloc (.cells #[] 131)).heap.size := by simp
  have ho0 : ((w.alloc (.cells #[.slice a rows.length c, .slice a' zs.length c'] 55)).alloc (.cells #[] 131)).ownsRow w.heap.size 131 2 (.slice (some ⟨w.heap.size + 1, 0, none⟩) 0 0) 0 ((flatP []).map (Value.int .i64)) := by have := World.ownsRow_made (base := w.heap.size) (e := 131) (size := 2) (w.alloc (.cells #[.slice a rows.length c, .slice a' zs.length c'] 55)) #[] 0 (by simp) (by unfold maxLen; omega) rfl; simpa [flatP] using this
  have HO0 := Lib.hid (show OwnA w.heap.size ((w.alloc (.cells #[.slice a rows.length c, .slice a' zs.length c'] 55)).alloc (.cells #[] 131)).heap.size ((w.alloc (.cells #[.slice a rows.length c, .slice a' zs.length c'] 55)).alloc (.cells #[] 131)) (.slice (some ⟨w.heap.size + 1, 0, none⟩) 0 0) [] from OwnA.of ho0)
  clear ho0
  generalize hw : ((w.alloc (.cells #[.slice a rows.length c, .slice a' zs.length c'] 55)).alloc (.cells #[] 131)) = w0 at *
  clear hw
  have n0_0 : w.heap.size < w0.heap.size := by omega
  refine (spec_sample a rows c a' zs c' _ (Hhr.out.below HB0.out) (Hhz.out.below HB0.out) hn hk HMM.out false h1).mono ?_
  rintro e w1 ⟨rfl, hb⟩
  have s1 : w0.heap.size ≤ w1.heap.size := hb.size
  have n1_0 : w.heap.size < w1.heap.size := by omega
  replace x0_0 := cell_below hb x0_0 (by omega)
  replace x0_1 := cell_below hb x0_1 (by omega)
  replace HO0 := Lib.hid (HO0.out.below hb)
  have HB1 := Lib.hid (HB0.out.trans (hb.mono (by omega)))
  clear hb
  go_wp2_with fail
  go_ret2
  exact ⟨_, rfl, HO0.out.mono (Nat.le_refl _) (by omega), HB1.out⟩
set_option maxRecDepth 100000 in
set_option maxHeartbeats 4000000 in
theorem spec_bad (a : Option Addr) (rows : List (List Int)) (c : Nat) (a' : Option Addr) (zs : List Int) (c' : Nat) (p : Option Addr) (ls : List Int) (q : Nat) (w : World) (hr : grid.Reads w a rows) (hz : ints.Reads .i64 w a' zs) (hq : ints.Reads .i64 w p ls) (hn : rows.length ≤ 1048576) (hk : zs.length ≤ 1048576) (hm : ∀ r ∈ rows, r.length ≤ 1048576) (hw : ls.length ≤ 1048576) (h1 : Hid (sampleB rows zs = true)) (h2 : Hid (ceB rows zs ls = false)) :
    Calls Try.prog 53 #[.agg #[.slice a rows.length c, .slice a' zs.length c'], .slice p ls.length q] w (RetAB [] false w) := by
  have HMM := Lib.hid hm
  clear hm
  have Hhr := Lib.hid hr
  have Hhz := Lib.hid hz
  have Hhq := Lib.hid hq
  clear hr hz hq
  go_enter Try.func53, Try.ntmps53
  go_wp2_with fail
  have x0_0 : (w.alloc (.cells #[.slice a rows.length c, .slice a' zs.length c'] 55)).cell? ⟨w.heap.size, 0, none⟩ = some (.slice a rows.length c) := cell_new _ _ _ (by simp) rfl
  have x0_1 : (w.alloc (.cells #[.slice a rows.length c, .slice a' zs.length c'] 55)).cell? ⟨w.heap.size, 1, none⟩ = some (.slice a' zs.length c') := cell_new _ _ _ (by simp) rfl
  have HB0 := Lib.hid (below_alloc w (.cells #[.slice a rows.length c, .slice a' zs.length c'] 55))
  replace x0_0 := cell_old (.cells #[] 131) x0_0
  replace x0_1 := cell_old (.cells #[] 131) x0_1
  replace HB0 := Lib.hid (HB0.out.alloc (by simp) (.cells #[] 131))
  have s0 : w.heap.size + 2 ≤ ((w.alloc (.cells #[.slice a rows.length c, .slice a' zs.length c'] 55)).alloc (.cells #[] 131)).heap.size := by simp
  have ho0 : ((w.alloc (.cells #[.slice a rows.length c, .slice a' zs.length c'] 55)).alloc (.cells #[] 131)).ownsRow w.heap.size 131 2 (.slice (some ⟨w.heap.size + 1, 0, none⟩) 0 0) 0 ((flatP []).map (Value.int .i64)) := by have := World.ownsRow_made (base := w.heap.size) (e := 131) (size := 2) (w.alloc (.cells #[.slice a rows.length c, .slice a' zs.length c'] 55)) #[] 0 (by simp) (by unfold maxLen; omega) rfl; simpa [flatP] using this
  have HO0 := Lib.hid (show OwnA w.heap.size ((w.alloc (.cells #[.slice a rows.length c, .slice a' zs.length c'] 55)).alloc (.cells #[] 131)).heap.size ((w.alloc (.cells #[.slice a rows.length c, .slice a' zs.length c'] 55)).alloc (.cells #[] 131)) (.slice (some ⟨w.heap.size + 1, 0, none⟩) 0 0) [] from OwnA.of ho0)
  clear ho0
  generalize hw : ((w.alloc (.cells #[.slice a rows.length c, .slice a' zs.length c'] 55)).alloc (.cells #[] 131)) = w0 at *
  clear hw
  have n0_0 : w.heap.size < w0.heap.size := by omega
  refine (spec_sample a rows c a' zs c' _ (Hhr.out.below HB0.out) (Hhz.out.below HB0.out) hn hk HMM.out true h1).mono ?_
  rintro e w1 ⟨rfl, hb⟩
  have s1 : w0.heap.size ≤ w1.heap.size := hb.size
  have n1_0 : w.heap.size < w1.heap.size := by omega
  replace x0_0 := cell_below hb x0_0 (by omega)
  replace x0_1 := cell_below hb x0_1 (by omega)
  replace HO0 := Lib.hid (HO0.out.below hb)
  have HB1 := Lib.hid (HB0.out.trans (hb.mono (by omega)))
  clear hb
  go_wp2_with fail
  refine (spec_cert a rows c a' zs c' p ls q _ (Hhr.out.below HB1.out) (Hhz.out.below HB1.out) (Hhq.out.below HB1.out) hw h1 false h2).mono ?_
  rintro e w2 ⟨rfl, hb⟩
  have s2 : w1.heap.size ≤ w2.heap.size := hb.size
  have n2_0 : w.heap.size < w2.heap.size := by omega
  replace x0_0 := cell_below hb x0_0 (by omega)
  replace x0_1 := cell_below hb x0_1 (by omega)
  replace HO0 := Lib.hid (HO0.out.below hb)
  have HB2 := Lib.hid (HB1.out.trans (hb.mono (by omega)))
  clear hb
  go_wp2_with fail
  go_ret2
  exact ⟨_, rfl, HO0.out.mono (Nat.le_refl _) (by omega), HB2.out⟩
set_option maxRecDepth 100000 in
set_option maxHeartbeats 4000000 in
theorem spec_yes (a : Option Addr) (rows : List (List Int)) (c : Nat) (a' : Option Addr) (zs : List Int) (c' : Nat) (p : Option Addr) (ls : List Int) (q : Nat) (w : World) (hr : grid.Reads w a rows) (hz : ints.Reads .i64 w a' zs) (hq : ints.Reads .i64 w p ls) (hn : rows.length ≤ 1048576) (hk : zs.length ≤ 1048576) (hm : ∀ r ∈ rows, r.length ≤ 1048576) (hw : ls.length ≤ 1048576) (h1 : Hid (sampleB rows zs = true)) (h2 : Hid (ceB rows zs ls = true)) :
    Calls Try.prog 53 #[.agg #[.slice a rows.length c, .slice a' zs.length c'], .slice p ls.length q] w (RetAB (pointC rows zs ls) true w) := by
  have HCF := Lib.hid (CF.of h1.out h2.out)
  have HMM := Lib.hid hm
  clear hm
  have Hhr := Lib.hid hr
  have Hhz := Lib.hid hz
  have Hhq := Lib.hid hq
  clear hr hz hq
  go_enter Try.func53, Try.ntmps53
  go_wp2_with fail
  have x0_0 : (w.alloc (.cells #[.slice a rows.length c, .slice a' zs.length c'] 55)).cell? ⟨w.heap.size, 0, none⟩ = some (.slice a rows.length c) := cell_new _ _ _ (by simp) rfl
  have x0_1 : (w.alloc (.cells #[.slice a rows.length c, .slice a' zs.length c'] 55)).cell? ⟨w.heap.size, 1, none⟩ = some (.slice a' zs.length c') := cell_new _ _ _ (by simp) rfl
  have HB0 := Lib.hid (below_alloc w (.cells #[.slice a rows.length c, .slice a' zs.length c'] 55))
  replace x0_0 := cell_old (.cells #[] 131) x0_0
  replace x0_1 := cell_old (.cells #[] 131) x0_1
  replace HB0 := Lib.hid (HB0.out.alloc (by simp) (.cells #[] 131))
  have s0 : w.heap.size + 2 ≤ ((w.alloc (.cells #[.slice a rows.length c, .slice a' zs.length c'] 55)).alloc (.cells #[] 131)).heap.size := by simp
  have ho0 : ((w.alloc (.cells #[.slice a rows.length c, .slice a' zs.length c'] 55)).alloc (.cells #[] 131)).ownsRow w.heap.size 131 2 (.slice (some ⟨w.heap.size + 1, 0, none⟩) 0 0) 0 ((flatP []).map (Value.int .i64)) := by have := World.ownsRow_made (base := w.heap.size) (e := 131) (size := 2) (w.alloc (.cells #[.slice a rows.length c, .slice a' zs.length c'] 55)) #[] 0 (by simp) (by unfold maxLen; omega) rfl; simpa [flatP] using this
  have HO0 := Lib.hid (show OwnA w.heap.size ((w.alloc (.cells #[.slice a rows.length c, .slice a' zs.length c'] 55)).alloc (.cells #[] 131)).heap.size ((w.alloc (.cells #[.slice a rows.length c, .slice a' zs.length c'] 55)).alloc (.cells #[] 131)) (.slice (some ⟨w.heap.size + 1, 0, none⟩) 0 0) [] from OwnA.of ho0)
  clear ho0
  generalize hw : ((w.alloc (.cells #[.slice a rows.length c, .slice a' zs.length c'] 55)).alloc (.cells #[] 131)) = w0 at *
  clear hw
  have n0_0 : w.heap.size < w0.heap.size := by omega
  refine (spec_sample a rows c a' zs c' _ (Hhr.out.below HB0.out) (Hhz.out.below HB0.out) hn hk HMM.out true h1).mono ?_
  rintro e w1 ⟨rfl, hb⟩
  have s1 : w0.heap.size ≤ w1.heap.size := hb.size
  have n1_0 : w.heap.size < w1.heap.size := by omega
  replace x0_0 := cell_below hb x0_0 (by omega)
  replace x0_1 := cell_below hb x0_1 (by omega)
  replace HO0 := Lib.hid (HO0.out.below hb)
  have HB1 := Lib.hid (HB0.out.trans (hb.mono (by omega)))
  clear hb
  go_wp2_with fail
  refine (spec_cert a rows c a' zs c' p ls q _ (Hhr.out.below HB1.out) (Hhz.out.below HB1.out) (Hhq.out.below HB1.out) hw h1 true h2).mono ?_
  rintro e w2 ⟨rfl, hb⟩
  have s2 : w1.heap.size ≤ w2.heap.size := hb.size
  have n2_0 : w.heap.size < w2.heap.size := by omega
  replace x0_0 := cell_below hb x0_0 (by omega)
  replace x0_1 := cell_below hb x0_1 (by omega)
  replace HO0 := Lib.hid (HO0.out.below hb)
  have HB2 := Lib.hid (HB1.out.trans (hb.mono (by omega)))
  clear hb
  go_wp2_with fail
  refine (spec_sums a rows c a' zs c' p ls q 1 _ (Hhr.out.below HB2.out) (Hhz.out.below HB2.out) (Hhq.out.below HB2.out) HCF.out.sf).mono ?_
  rintro e w3 ⟨v, rfl, hos, hb⟩
  obtain ⟨ps, qs, rfl, hrs, _, _⟩ := hos.slice
  have HOS := Lib.hid hos
  clear hrs hos
  obtain ⟨i0, hi, hz0, hz1, hz2⟩ := info_parts infoA
  have hcf1 := HCF.out.len
  have hcf2 := HCF.out.pos
  have hcf3 := HCF.out.bd
  have HPC := Lib.hid (show pointC rows zs ls = ptsTo (sumC rows zs ls) (rows.getD 0 []).length from rfl)
  have hd4 := HCF.out.sf.d4
  have HOS' := Lib.hid (show OwnI w2.heap.size w3.heap.size w3 (.slice ps (sumC rows zs ls).length qs) (sumC rows zs ls) from HOS.out)
  have hSl : (sumsTo rows zs ls 1 (rows.getD 0 []).length rows.length).length = (rows.getD 0 []).length + 1 := sums_length ..
  rw [hSl]
  rw [hcf1] at HOS'
  generalize sumC rows zs ls = S at *
  generalize (rows.getD 0 []).length = d at *
  have HCB := Lib.hid hcf3
  have HC0 := Lib.hid hcf2
  have HSl := Lib.hid hcf1
  clear hSl HOS hcf1 hcf2 hcf3 HCF HMM Hhr Hhz Hhq h1 h2
  have s3 : w2.heap.size ≤ w3.heap.size := hb.size
  have n3_0 : w.heap.size < w3.heap.size := by omega
  replace x0_0 := cell_below hb x0_0 (by omega)
  replace x0_1 := cell_below hb x0_1 (by omega)
  replace HO0 := Lib.hid (HO0.out.below hb)
  have HB3 := Lib.hid (HB2.out.trans (hb.mono (by omega)))
  clear hb
  go_wp2_with fail
  clear x0_0 x0_1 HB0 HB1 HB2
  obtain ⟨g9, c9, e9, _, _⟩ := HOS'.out.1.form (by have := HSl.out; omega)
  simp only [Value.slice.injEq] at e9
  obtain ⟨rfl, e7, rfl⟩ := e9
  clear e7
  have hg9 := HOS'.out.lt (g := g9) rfl
  go_loopw [6, 8] (fun v i wr => ∃ (m g cp : Nat), m ≤ d ∧ i = .int .i64 ((m : Int) + 1) ∧ v = .slice (some ⟨g, 0, none⟩) m cp ∧ OwnA w.heap.size wr.heap.size wr (.slice (some ⟨g, 0, none⟩) m cp) (ptsTo S m) ∧ (g < w2.heap.size ∨ w3.heap.size ≤ g) ∧ OwnI w2.heap.size w3.heap.size wr (.slice (some ⟨g9, 0, none⟩) (d + 1) qs) S ∧ w3.heap.size ≤ wr.heap.size ∧ Below w.heap.size w wr) (fun _ i _ => d + 1 - (intOf i).toNat)
  case atStart => exact ⟨0, w.heap.size + 1, 0, Nat.zero_le _, rfl, rfl, HO0.out.mono (Nat.le_refl _) (by omega), .inl (by omega), HOS'.out, Nat.le_refl _, HB3.out⟩
  case round =>
    clear HO0 HOS' HB3
    obtain ⟨m, g, cp, hm, rfl, rfl, ho, hg, hos, hsz, hbel⟩ := hrel
    have HO := Lib.hid ho
    have HBl := Lib.hid hbel
    have HOS := Lib.hid hos
    by_cases hlt : m < d
    · obtain ⟨sb, so, hsb, hsl, hc⟩ := hos.reads.at (k := m + 1) (by have := HSl.out; omega)
      obtain ⟨sb', so', hsb', _, hd⟩ := hos.reads.at (k := 0) (by have := HSl.out; omega)
      obtain ⟨rfl, rfl⟩ : g9 = sb ∧ 0 = so := by cases hsb; exact ⟨rfl, rfl⟩
      obtain ⟨rfl, rfl⟩ : g9 = sb' ∧ 0 = so' := by cases hsb'; exact ⟨rfl, rfl⟩
      rw [Nat.zero_add] at hc hd
      have hx := HCB.out (m + 1) (by omega)
      have h0 := HCB.out 0 (by omega)
      have hp := HC0.out
      have HPS0 := pts_succ S m
      obtain ⟨n0, hn0⟩ : ∃ n0 : Nat, (S.getD 0 0).toNat = n0 := ⟨_, rfl⟩
      have hn1 : S.getD 0 0 = (n0 : Int) := by omega
      have hp0 : 0 < n0 := by omega
      have hn2 : n0 ≤ 1000000000000 := by omega
      rw [hn0] at HPS0
      rw [hn1] at hd
      clear hn0 hn1 hp h0
      generalize S.getD (m + 1) 0 = x at *
      have HPS := Lib.hid HPS0
      clear HPS0 hsb hsb'
      obtain ⟨hx1, hx2⟩ := hx
      have i1 : (0 : Int) ≤ (m : Int) + 1 := by omega
      have i2 : (m : Int) + 1 < (d : Int) + 1 := by omega
      have i3 : (0 : Int) < (d : Int) + 1 := by omega
      have i5 : ((m : Int) + 1).toNat = m + 1 := by omega
      clear ho hos hbel
      go_wp2_with fail

      refine wp_region_noPanic ?_
      refine wp_region_held_drew (S := fun w' => w'.cell? ⟨g9, m + 1, none⟩ = some (.int .i64 x) ∧ w'.cell? ⟨g9, 0, none⟩ = some (.int .i64 (n0 : Int))) (by kernel_rfl) ?_ (fun hHeld => ?_)
      · exact ⟨hc, hd⟩
      have hb : Below wr.heap.size wr wr.drew := (Below.refl _ _).drew
      generalize hwn : wr.drew = v11 at *
      clear hwn
      have sz11 : wr.heap.size ≤ v11.heap.size := hb.size
      replace hc := cell_keep hb hc
      replace hd := cell_keep hb hd
      replace HO := Lib.hid (HO.out.below hb)
      replace HOS := Lib.hid (HOS.out.below hb)
      have HBh11 := Lib.hid (HBl.out.trans (hb.mono (by have := HBl.out.size; omega)))
      clear hb
      refine wpAnyH_take (i := 0) (v := ?_) rfl (by kernel_rfl) (by kernel_rfl) (by kernel_rfl) (fun _ _ _ h => h) (Or.inl ⟨by rfl, ?_⟩) (by assumption) ?_
      rotate_left
      · intro w9 hSw; (try dsimp only at hSw); go_simp; try with_reducible rfl
      try simp only [List.getElem_toArray, List.getElem_cons_succ, List.getElem_cons_zero, Act.put, List.setIfInBounds_toArray, List.set_cons_zero, List.set_cons_succ]
      refine wpAnyH_take (i := 1) (v := ?_) rfl (by kernel_rfl) (by kernel_rfl) (by kernel_rfl) (fun _ _ _ h => h) (Or.inl ⟨by rfl, ?_⟩) (by assumption) ?_
      rotate_left
      · intro w9 hSw; (try dsimp only at hSw); go_simp; try with_reducible rfl
      try simp only [List.getElem_toArray, List.getElem_cons_succ, List.getElem_cons_zero, Act.put, List.setIfInBounds_toArray, List.set_cons_zero, List.set_cons_succ]
      refine wpAnyH_take (i := 2) (v := ?_) rfl (by kernel_rfl) (by kernel_rfl) (by kernel_rfl) (fun _ _ _ h => h) (Or.inl ⟨by rfl, ?_⟩) (by assumption) ?_
      rotate_left
      · intro w9 hSw; (try dsimp only at hSw); go_simp; try with_reducible rfl
      try simp only [List.getElem_toArray, List.getElem_cons_succ, List.getElem_cons_zero, Act.put, List.setIfInBounds_toArray, List.set_cons_zero, List.set_cons_succ]
      refine wpAnyH_take (i := 3) (v := ?_) rfl (by kernel_rfl) (by kernel_rfl) (by kernel_rfl) (fun _ _ _ h => h) (Or.inl ⟨by rfl, ?_⟩) (by assumption) ?_
      rotate_left
      · intro w9 hSw; (try dsimp only at hSw); go_simp; try with_reducible rfl
      try simp only [List.getElem_toArray, List.getElem_cons_succ, List.getElem_cons_zero, Act.put, List.setIfInBounds_toArray, List.set_cons_zero, List.set_cons_succ]
      refine wpAnyH_take (i := 4) (v := ?_) rfl (by kernel_rfl) (by kernel_rfl) (by kernel_rfl) (fun _ _ _ h => h) (Or.inl ⟨by rfl, ?_⟩) (by assumption) ?_
      rotate_left
      · intro w9 hSw; (try dsimp only at hSw); go_simp; try with_reducible rfl
      try simp only [List.getElem_toArray, List.getElem_cons_succ, List.getElem_cons_zero, Act.put, List.setIfInBounds_toArray, List.set_cons_zero, List.set_cons_succ]
      refine wpAnyH_take (i := 5) (v := ?_) rfl (by kernel_rfl) (by kernel_rfl) (by kernel_rfl) (fun _ _ _ h => h) (Or.inl ⟨by rfl, ?_⟩) (by assumption) ?_
      rotate_left
      · intro w9 hSw; (try dsimp only at hSw); go_simp; try with_reducible rfl
      try simp only [List.getElem_toArray, List.getElem_cons_succ, List.getElem_cons_zero, Act.put, List.setIfInBounds_toArray, List.set_cons_zero, List.set_cons_succ]
      refine wpAnyH_take (i := 6) (v := ?_) rfl (by kernel_rfl) (by kernel_rfl) (by kernel_rfl) (fun _ _ _ h => h) (Or.inl ⟨by rfl, ?_⟩) (by assumption) ?_
      rotate_left
      · intro w9 hSw; (try dsimp only at hSw); go_simp; try with_reducible rfl
      try simp only [List.getElem_toArray, List.getElem_cons_succ, List.getElem_cons_zero, Act.put, List.setIfInBounds_toArray, List.set_cons_zero, List.set_cons_succ]
      refine wpAnyH_take (i := 7) (v := ?_) rfl (by kernel_rfl) (by kernel_rfl) (by kernel_rfl) (fun _ _ _ h => h) (Or.inl ⟨by rfl, ?_⟩) (by assumption) ?_
      rotate_left
      · intro w9 hSw; (try dsimp only at hSw); go_simp; try with_reducible rfl
      try simp only [List.getElem_toArray, List.getElem_cons_succ, List.getElem_cons_zero, Act.put, List.setIfInBounds_toArray, List.set_cons_zero, List.set_cons_succ]
      refine wpAnyH_ready (rs := [8]) (by kernel_rfl) (by simp) ?_
      refine AllReadyH.cons rfl (fun K hK => ?_) AllReadyH.nil
      clear hHeld
      go_simp
      refine (spec_cut x n0 _ hp0 hx1 hx2 hn2).mono ?_
      rintro e v12 ⟨rfl, hb⟩
      have sz12 : v11.heap.size ≤ v12.heap.size := hb.size
      replace hc := cell_keep hb hc
      replace hd := cell_keep hb hd
      replace HO := Lib.hid (HO.out.below hb)
      replace HOS := Lib.hid (HOS.out.below hb)
      have HBh12 := Lib.hid (HBh11.out.trans (hb.mono (by have := HBh11.out.size; omega)))
      clear hb
      refine hK.out _ _ ?_ (fun hHeld => ?_)
      · exact ⟨hc, hd⟩
      clear hK K
      try simp only [List.getElem_toArray, List.getElem_cons_succ, List.getElem_cons_zero, Act.put, List.setIfInBounds_toArray, List.set_cons_zero, List.set_cons_succ]
      refine wpAnyH_ready (rs := [9]) (by kernel_rfl) (by simp) ?_
      refine AllReadyH.cons rfl (fun K hK => ?_) AllReadyH.nil
      clear hHeld
      go_simp
      have px_0 : (v12.alloc (.cells #[.int .i64 (cutP x n0).1, .int .i64 (cutP x n0).2] 131)).cell? ⟨v12.heap.size, 0, none⟩ = some (.int .i64 (cutP x n0).1) := cell_new _ _ _ rfl rfl
      have px_f0 : (v12.alloc (.cells #[.int .i64 (cutP x n0).1, .int .i64 (cutP x n0).2] 131)).frozen? ⟨v12.heap.size, 0, none⟩ = false := fro_new _ _ _ rfl
      have px_1 : (v12.alloc (.cells #[.int .i64 (cutP x n0).1, .int .i64 (cutP x n0).2] 131)).cell? ⟨v12.heap.size, 1, none⟩ = some (.int .i64 (cutP x n0).2) := cell_new _ _ _ rfl rfl
      have px_f1 : (v12.alloc (.cells #[.int .i64 (cutP x n0).1, .int .i64 (cutP x n0).2] 131)).frozen? ⟨v12.heap.size, 1, none⟩ = false := fro_new _ _ _ rfl
      have hb := below_alloc v12 (.cells #[.int .i64 (cutP x n0).1, .int .i64 (cutP x n0).2] 131)
      have lt_px := size_alloc' v12 (.cells #[.int .i64 (cutP x n0).1, .int .i64 (cutP x n0).2] 131)
      generalize hwn : v12.alloc (.cells #[.int .i64 (cutP x n0).1, .int .i64 (cutP x n0).2] 131) = v13 at *
      clear hwn
      have sz13 : v12.heap.size ≤ v13.heap.size := hb.size
      replace hc := cell_keep hb hc
      replace hd := cell_keep hb hd
      replace HO := Lib.hid (HO.out.below hb)
      replace HOS := Lib.hid (HOS.out.below hb)
      have HBh13 := Lib.hid (HBh12.out.trans (hb.mono (by have := HBh12.out.size; omega)))
      clear hb
      obtain ⟨Bpx, hBpx⟩ : ∃ Bpx : Nat, Bpx = v12.heap.size := ⟨_, rfl⟩
      rw [← hBpx] at px_0 px_f0 px_1 px_f1 ⊢
      have hBlpx : Bpx ≤ v12.heap.size ∧ v12.heap.size ≤ Bpx := by omega
      clear hBpx
      refine hK.out _ _ ?_ (fun hHeld => ?_)
      · exact ⟨hc, hd⟩
      clear hK K
      try simp only [List.getElem_toArray, List.getElem_cons_succ, List.getElem_cons_zero, Act.put, List.setIfInBounds_toArray, List.set_cons_zero, List.set_cons_succ]
      refine wpAnyH_ready (rs := [10]) (by kernel_rfl) (by simp) ?_
      refine AllReadyH.cons rfl (fun K hK => ?_) AllReadyH.nil
      clear hHeld
      have hop : v13.ownsRow w.heap.size 131 2 (.slice (some ⟨g, 0, none⟩) m cp) m ((flatP (ptsTo S m)).map (Value.int .i64)) := by have h7 := HO.out.1; rw [pts_length] at h7; exact h7
      refine step_append_lies _ (by rfl) _ _ _ (by rfl) w.heap.size 131 i0 _ 2 16 Try.underlying69 hi hz0 hz1 hz2 rfl (by omega) (.slice (some ⟨g, 0, none⟩) m cp) m ((flatP (ptsTo S m)).map (Value.int .i64)) (by rfl) hop ⟨Bpx, 0, none⟩ 1 1 [.int .i64 (cutP x n0).1, .int .i64 (cutP x n0).2] (by rfl) (by rfl) (fun j u hj => by (have h7 : j = 0 ∨ j = 1 := by (have := (List.getElem?_eq_some_iff.1 hj).1; simp at this; omega)); rcases h7 with rfl | rfl <;> simp at hj <;> subst hj; (simpa [Addr.add] using px_0); (simpa [Addr.add] using px_1)) (by simp [Value.oneCell']) (by omega) (by unfold maxLen; omega) (by omega) (by have := HBh13.out.size; omega) v13.heap.size rfl ?_
      intro gg gc v14 hown hg hat hlt9
      have hrow : ∀ g', (Value.slice (some ⟨g, 0, none⟩) m cp).ownBlock = some g' → g' = g ∧ w.heap.size ≤ g' := fun g' e => ⟨(by simpa [Value.ownBlock] using e.symm), (hop.lt g' e).1⟩
      have hgg : gg < w2.heap.size ∨ w3.heap.size ≤ gg := by (rcases hat with e | e); (have := (hrow gg e).1; omega); omega
      clear hop
      clear px_0 px_1 px_f0 px_f1
      have sz14 : v13.heap.size ≤ v14.heap.size := hg.size
      replace hc := cell_grow hg hc (fun g e => by have := hrow _ e; omega)
      replace hd := cell_grow hg hd (fun g e => by have := hrow _ e; omega)
      replace HOS := Lib.hid (own_grow hg HOS.out (fun g e => by have := hrow _ e; omega))
      have HBh14 := Lib.hid (HBh13.out.grown hg (by have := HBh13.out.size; omega) (fun g e => by have := hrow _ e; omega))
      have HON := Lib.hid (own_snoc (pts_length S m) hown)
      clear hown hg hat hrow
      refine hK.out _ _ ?_ (fun hHeld => ?_)
      · exact ⟨hc, hd⟩
      clear hK K
      try simp only [List.getElem_toArray, List.getElem_cons_succ, List.getElem_cons_zero, Act.put, List.setIfInBounds_toArray, List.set_cons_zero, List.set_cons_succ]
      refine wpAnyH_take (i := 11) (v := ?_) rfl (by kernel_rfl) (by kernel_rfl) (by kernel_rfl) (fun _ _ _ h => h) (Or.inl ⟨by rfl, ?_⟩) (by assumption) ?_
      rotate_left
      · intro w9 hSw; (try dsimp only at hSw); go_simp; try with_reducible rfl
      try simp only [List.getElem_toArray, List.getElem_cons_succ, List.getElem_cons_zero, Act.put, List.setIfInBounds_toArray, List.set_cons_zero, List.set_cons_succ]
      refine wpAnyH_done (by kernel_rfl) ?_ _
      refine NoPanic.normal ?_
      clear hHeld
      go_wp2_with fail
      go_roundw
      case rel => exact ⟨m + 1, gg, gc, by omega, by go_num, rfl, by rw [HPS.out]; exact HON.out, hgg, HOS.out, by have := HBh14.out.size; omega, HBh14.out⟩
      case measure => simp [intOf]; omega
    · obtain rfl : m = d := by omega
      have HF := Lib.hid (show RetAB (ptsTo S m) true w (.returned (.tuple #[.slice (some ⟨g, 0, none⟩) m cp, .bool true])) wr from ⟨_, rfl, ho, hbel⟩)
      clear ho hos hbel
      go_wp2_with fail
      go_ret2
      exact by rw [HPC.out]; exact HF.out
end Go.Proofs.Ytplhcboecjegjaa.commons
