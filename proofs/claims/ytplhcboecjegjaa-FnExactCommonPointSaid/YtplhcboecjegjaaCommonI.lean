/- The walk of the program's CommonPoint. -/
import Derived.Test.YtplhcboecjegjaaCommonP
import Derived.Test.YtplhcboecjegjaaDivW
import Derived.Test.YtplhcboecjegjaaPairFns
import Derived.Deep.RegionHeld3
import Derived.Deep.DrawnRows
import Derived.Deep.AppendLies
namespace Go.Proofs.Ytplhcboecjegjaa.commoni
open Go.RowKit own pp nums own1 samplesv samplest fill range sums same cert gcdw cutw divw commonp
set_option linter.unusedVariables false
attribute [local go_sem ↓] Go.wp_at_zero Go.wp_at_succ
set_option linter.unusedSimpArgs false

theorem infoA : (Try.prog.info? 131).map (fun i => (i.zero, i.size, i.bytes)) = some (some (.agg #[.int .i64 0, .int .i64 0]), 2, 16) := by kernel_rfl
theorem ret_emptyA {W w1 : World} (h : Below W.heap.size W w1) : RetAB [] false W (.returned (.tuple #[.slice (some ⟨w1.heap.size, 0, none⟩) 0 0, .bool false])) (w1.alloc (.cells #[] 131)) := by
  have ho : (w1.alloc (.cells #[] 131)).ownsRow W.heap.size 131 2 (.slice (some ⟨w1.heap.size, 0, none⟩) 0 0) 0 ((flatP []).map (Value.int .i64)) := by have := World.ownsRow_made (base := W.heap.size) (e := 131) (size := 2) w1 #[] 0 h.size (by unfold maxLen; omega) rfl; simpa [flatP] using this
  exact ⟨_, rfl, OwnA.of ho, h.alloc h.size _⟩
theorem cell_keep {W W' : World} (h : Below W.heap.size W W') {b o : Nat} {x : Value} (hx : W.cell? ⟨b, o, none⟩ = some x) : W'.cell? ⟨b, o, none⟩ = some x :=
  cell_below h hx (block_lt_of_cell (a := ⟨b, o, none⟩) hx)
theorem fro_keep {W W' : World} (h : Below W.heap.size W W') {b o o' : Nat} {x : Value} (hx : W.cell? ⟨b, o', none⟩ = some x) (hf : W.frozen? ⟨b, o, none⟩ = false) : W'.frozen? ⟨b, o, none⟩ = false :=
  fro_below h hf (block_lt_of_cell (a := ⟨b, o', none⟩) hx)
theorem cell_grow {W W' : World} {row : Option Nat} (h : W.grownBy W' row) {b o : Nat} {x : Value} (hx : W.cell? ⟨b, o, none⟩ = some x) (hne : ∀ g, row = some g → b ≠ g) : W'.cell? ⟨b, o, none⟩ = some x :=
  (World.cell?_of_block (h.block b (block_lt_of_cell (a := ⟨b, o, none⟩) hx) (fun e => hne b e.symm rfl))).trans hx
theorem fro_grow {W W' : World} {row : Option Nat} (h : W.grownBy W' row) {b o o' : Nat} {x : Value} (hx : W.cell? ⟨b, o', none⟩ = some x) (hf : W.frozen? ⟨b, o, none⟩ = false) (hne : ∀ g, row = some g → b ≠ g) : W'.frozen? ⟨b, o, none⟩ = false :=
  (World.frozen?_of_block (a := ⟨b, o, none⟩) (h.block b (block_lt_of_cell (a := ⟨b, o', none⟩) hx) (fun e => hne b e.symm rfl))).trans hf
theorem own_grow {W W' : World} {row : Option Nat} (h : W.grownBy W' row) {lo hi : Nat} {v : Value} {zs : List Int} (ho : OwnI lo hi W v zs) (hne : ∀ g, row = some g → g < lo ∨ hi ≤ g) : OwnI lo hi W' v zs :=
  ho.block fun g hg => h.block g (ho.lt hg).2.2 (fun e => by have := hne g e.symm; have := ho.lt hg; omega)
theorem cell_set2 {W : World} {b o b' o' : Nat} {x : Value} (hx : W.cell? ⟨b, o, none⟩ = some x) (hne : b ≠ b') (u : Value) : (W.setCell ⟨b', o', none⟩ u).cell? ⟨b, o, none⟩ = some x :=
  (World.cell?_of_block (Below.heap_setCell _ _ _ _ (by show b ≠ b'; exact hne))).trans hx
theorem grown_set (W : World) (b o : Nat) (u : Value) : W.grownBy (W.setCell ⟨b, o, none⟩ u) (some b) :=
  ⟨rfl, rfl, rfl, by rw [size_set]; exact Nat.le_refl _, fun k hk hne => Below.heap_setCell _ _ _ _ (fun e => hne (by rw [e]))⟩
theorem grown_trans {W W1 W2 : World} {row : Option Nat} (h : W.grownBy W1 row) (k : W1.grownBy W2 row) : W.grownBy W2 row :=
  ⟨k.os.trans h.os, k.tape.trans h.tape, k.output.trans h.output, Nat.le_trans h.size k.size, fun i hi hn => (k.block i (Nat.lt_of_lt_of_le hi h.size) hn).trans (h.block i hi hn)⟩
theorem own_narrow {W : World} {lo gg cap : Nat} {l : List Int} {z : Int} (h : W.ownsRow lo 3 1 (.slice (some ⟨gg, 0, none⟩) (l.length + 1) cap) (l.length + 1) (l.map (Value.int .i64) ++ [.int .i64 z])) : OwnI gg (gg + 1) W (.slice (some ⟨gg, 0, none⟩) (l.length + 1) cap) (l ++ [z]) := by
  have h2 : W.ownsRow lo 3 1 (.slice (some ⟨gg, 0, none⟩) (l.length + 1) cap) (l ++ [z]).length ((l ++ [z]).map (Value.int .i64)) := by simpa [List.map_append] using h
  exact ⟨ownsRow_base h2 (fun g e => by obtain rfl : gg = g := (by simpa [Value.ownBlock] using e); exact Nat.le_refl _), fun g e => by obtain rfl : gg = g := (by simpa [Value.ownBlock] using e); omega⟩
theorem own_put {W : World} {lo hi gg n cap : Nat} {l : List Int} (h : OwnI lo hi W (.slice (some ⟨gg, 0, none⟩) n cap) l) (hn : n = l.length) (k : Nat) (z : Int) : OwnI lo hi (W.setCell ⟨gg, k, none⟩ (.int .i64 z)) (.slice (some ⟨gg, 0, none⟩) n cap) (l.set k z) := by
  subst hn
  have := (h.1.stored k (.int .i64 z)).1
  rw [← List.map_set] at this
  exact ⟨by rw [List.length_set]; exact this, h.2⟩
theorem own_cell {W : World} {lo hi gg n cap : Nat} {l : List Int} (h : OwnI lo hi W (.slice (some ⟨gg, 0, none⟩) n cap) l) (hn : n = l.length) (k : Nat) (hk : k < l.length) : W.cell? ⟨gg, k, none⟩ = some (.int .i64 (l.getD k 0)) := by
  subst hn
  rw [h.1.cellAt k (by omega), List.getElem?_map, List.getElem?_eq_getElem hk, List.getD_eq_getElem?_getD, List.getElem?_eq_getElem hk]; rfl
theorem own_fro {W : World} {lo hi gg n cap : Nat} {l : List Int} (h : OwnI lo hi W (.slice (some ⟨gg, 0, none⟩) n cap) l) (hn : n = l.length) (k : Nat) : W.frozen? ⟨gg, k, none⟩ = false := by
  subst hn
  exact h.1.frozenAt k
/-- The first k points, then zeros. -/
def ptsZ (S : List Int) (d k : Nat) : List (Int × Int) := ptsTo S k ++ List.replicate (d - k) (0, 0)
theorem z_length {S : List Int} {d k : Nat} (h : k ≤ d) : (ptsZ S d k).length = d := by simp [ptsZ, pts_length]; omega
theorem z_all (S : List Int) (d : Nat) : ptsZ S d d = ptsTo S d := by simp [ptsZ]
theorem z_set {S : List Int} {d k : Nat} (h : k < d) : (ptsZ S d k).set k (cutP (S.getD (k + 1) 0) (S.getD 0 0).toNat) = ptsZ S d (k + 1) := by
  unfold ptsZ
  rw [List.set_append, if_neg (by rw [pts_length]; omega), pts_length, Nat.sub_self, show d - k = (d - (k + 1)) + 1 by omega, List.replicate_succ, List.set_cons_zero, pts_succ, List.append_assoc]
  rfl
theorem z_made (S : List Int) {d : Nat} (h : 1 ≤ d ∧ d ≤ 4) : (madeCells (Value.agg #[.int .i64 0, .int .i64 0]).cells (d * 2)).toList = (flatP (ptsZ S d 0)).map (Value.int .i64) := by
  obtain rfl | rfl | rfl | rfl : d = 1 ∨ d = 2 ∨ d = 3 ∨ d = 4 := by omega
  · rw [show ptsZ S 1 0 = [(0, 0)] from rfl]; first | kernel_rfl | simp [madeCells, flatP, List.range_succ]
  · rw [show ptsZ S 2 0 = [(0, 0), (0, 0)] from rfl]; first | kernel_rfl | simp [madeCells, flatP, List.range_succ]
  · rw [show ptsZ S 3 0 = [(0, 0), (0, 0), (0, 0)] from rfl]; first | kernel_rfl | simp [madeCells, flatP, List.range_succ]
  · rw [show ptsZ S 4 0 = [(0, 0), (0, 0), (0, 0), (0, 0)] from rfl]; first | kernel_rfl | simp [madeCells, flatP, List.range_succ]
theorem flat_set (ps : List (Int × Int)) (k : Nat) (x : Int × Int) : flatP (ps.set k x) = ((flatP ps).set (k * 2) x.1).set (k * 2 + 1) x.2 := by
  induction ps generalizing k with
  | nil => simp [flatP]
  | cons y ps ih =>
    cases k with
    | zero => rfl
    | succ k =>
      rw [show (k + 1) * 2 = k * 2 + 2 by omega]
      show y.1 :: y.2 :: flatP (ps.set k x) = y.1 :: y.2 :: ((flatP ps).set (k * 2) x.1).set (k * 2 + 1) x.2
      rw [ih]
theorem reads_two {W : World} {b : Nat} {x y : Int} (h0 : W.cell? ⟨b, 0, none⟩ = some (.int .i64 x)) (h1 : W.cell? ⟨b, 1, none⟩ = some (.int .i64 y)) (hb : b < W.heap.size) : ints.Reads .i64 W (some ⟨b, 0, none⟩) [x, y] := by
  refine .inr ⟨b, 0, rfl, hb, fun i hi => ?_⟩
  have : i = 0 ∨ i = 1 := by simp at hi; omega
  rcases this with rfl | rfl
  · exact h0
  · exact h1
theorem own_setA {W : World} {lo hi g n cap : Nat} {ps : List (Int × Int)} (h : OwnA lo hi W (.slice (some ⟨g, 0, none⟩) n cap) ps) (hn : n = ps.length) (k : Nat) (x : Int × Int) : OwnA lo hi ((W.setCell ⟨g, k * 2, none⟩ (.int .i64 x.1)).setCell ⟨g, k * 2 + 1, none⟩ (.int .i64 x.2)) (.slice (some ⟨g, 0, none⟩) n cap) (ps.set k x) := by
  subst hn
  have h1 := (h.1.stored (k * 2) (.int .i64 x.1)).1
  have h2 := (h1.stored (k * 2 + 1) (.int .i64 x.2)).1
  refine ⟨?_, h.2⟩
  rw [List.length_set, flat_set, List.map_set, List.map_set]
  exact h2
set_option maxRecDepth 100000 in
set_option maxHeartbeats 4000000 in
theorem impl_none (a : Option Addr) (rows : List (List Int)) (c : Nat) (a' : Option Addr) (zs : List Int) (c' : Nat) (p : Option Addr) (ls : List Int) (q : Nat) (w : World) (hr : grid.Reads w a rows) (hz : ints.Reads .i64 w a' zs) (hq : ints.Reads .i64 w p ls) (hn : rows.length ≤ 1048576) (hk : zs.length ≤ 1048576) (hm : ∀ r ∈ rows, r.length ≤ 1048576) (hw : ls.length ≤ 1048576) (h1 : Hid (sampleB rows zs = false)) :
    Calls Try.prog 54 #[.agg #[.slice a rows.length c, .slice a' zs.length c'], .slice p ls.length q] w (RetAB [] false w) := by
  have HMM := Lib.hid hm
  clear hm
  have Hhr := Lib.hid hr
  have Hhz := Lib.hid hz
  have Hhq := Lib.hid hq
  clear hr hz hq
  go_enter Try.func54, Try.ntmps54
  go_wp2_with fail
  have x0_0 : (w.alloc (.cells #[.slice a rows.length c, .slice a' zs.length c'] 55)).cell? ⟨w.heap.size, 0, none⟩ = some (.slice a rows.length c) := cell_new _ _ _ (by simp) rfl
  have x0_1 : (w.alloc (.cells #[.slice a rows.length c, .slice a' zs.length c'] 55)).cell? ⟨w.heap.size, 1, none⟩ = some (.slice a' zs.length c') := cell_new _ _ _ (by simp) rfl
  have HB0 := Lib.hid (below_alloc w (.cells #[.slice a rows.length c, .slice a' zs.length c'] 55))
  have s0 : w.heap.size + 1 ≤ (w.alloc (.cells #[.slice a rows.length c, .slice a' zs.length c'] 55)).heap.size := by simp
  generalize hw : (w.alloc (.cells #[.slice a rows.length c, .slice a' zs.length c'] 55)) = w0 at *
  clear hw
  have n0_0 : w.heap.size < w0.heap.size := by omega
  refine (impl_no a rows c a' zs c' p ls q _ (Hhr.out.below HB0.out) (Hhz.out.below HB0.out) (Hhq.out.below HB0.out) hn hk HMM.out hw h1).mono ?_
  rintro e w1 ⟨rfl, hb⟩
  have s1 : w0.heap.size ≤ w1.heap.size := hb.size
  have n1_0 : w.heap.size < w1.heap.size := by omega
  replace x0_0 := cell_below hb x0_0 (by omega)
  replace x0_1 := cell_below hb x0_1 (by omega)
  have HB1 := Lib.hid (HB0.out.trans (hb.mono (by omega)))
  clear hb
  go_wp2_with fail
  go_ret2
  exact ret_emptyA HB1.out
set_option maxRecDepth 100000 in
set_option maxHeartbeats 4000000 in
theorem impl_bad2 (a : Option Addr) (rows : List (List Int)) (c : Nat) (a' : Option Addr) (zs : List Int) (c' : Nat) (p : Option Addr) (ls : List Int) (q : Nat) (w : World) (hr : grid.Reads w a rows) (hz : ints.Reads .i64 w a' zs) (hq : ints.Reads .i64 w p ls) (hn : rows.length ≤ 1048576) (hk : zs.length ≤ 1048576) (hm : ∀ r ∈ rows, r.length ≤ 1048576) (hw : ls.length ≤ 1048576) (h1 : Hid (sampleB rows zs = true)) (h2 : Hid (ceB rows zs ls = false)) :
    Calls Try.prog 54 #[.agg #[.slice a rows.length c, .slice a' zs.length c'], .slice p ls.length q] w (RetAB [] false w) := by
  have HIY := Lib.hid (fun (wa : World) (hb : Below w.heap.size w wa) => by have h7 := impl_yes a rows c a' zs c' p ls q wa (hr.below hb) (hz.below hb) (hq.below hb) hn hk hm hw h1; rw [h2.out] at h7; exact h7)
  have HMM := Lib.hid hm
  clear hm
  have Hhr := Lib.hid hr
  have Hhz := Lib.hid hz
  have Hhq := Lib.hid hq
  clear hr hz hq
  go_enter Try.func54, Try.ntmps54
  go_wp2_with fail
  have x0_0 : (w.alloc (.cells #[.slice a rows.length c, .slice a' zs.length c'] 55)).cell? ⟨w.heap.size, 0, none⟩ = some (.slice a rows.length c) := cell_new _ _ _ (by simp) rfl
  have x0_1 : (w.alloc (.cells #[.slice a rows.length c, .slice a' zs.length c'] 55)).cell? ⟨w.heap.size, 1, none⟩ = some (.slice a' zs.length c') := cell_new _ _ _ (by simp) rfl
  have HB0 := Lib.hid (below_alloc w (.cells #[.slice a rows.length c, .slice a' zs.length c'] 55))
  have s0 : w.heap.size + 1 ≤ (w.alloc (.cells #[.slice a rows.length c, .slice a' zs.length c'] 55)).heap.size := by simp
  generalize hw : (w.alloc (.cells #[.slice a rows.length c, .slice a' zs.length c'] 55)) = w0 at *
  clear hw
  have n0_0 : w.heap.size < w0.heap.size := by omega
  refine (HIY.out _ HB0.out).mono ?_
  rintro e w1 ⟨rfl, hb⟩
  have s1 : w0.heap.size ≤ w1.heap.size := hb.size
  have n1_0 : w.heap.size < w1.heap.size := by omega
  replace x0_0 := cell_below hb x0_0 (by omega)
  replace x0_1 := cell_below hb x0_1 (by omega)
  have HB1 := Lib.hid (HB0.out.trans (hb.mono (by omega)))
  clear hb
  go_wp2_with fail
  go_ret2
  exact ret_emptyA HB1.out
set_option maxRecDepth 100000 in
set_option maxHeartbeats 4000000 in
theorem impl_full2 (a : Option Addr) (rows : List (List Int)) (c : Nat) (a' : Option Addr) (zs : List Int) (c' : Nat) (p : Option Addr) (ls : List Int) (q : Nat) (w : World) (hr : grid.Reads w a rows) (hz : ints.Reads .i64 w a' zs) (hq : ints.Reads .i64 w p ls) (hn : rows.length ≤ 1048576) (hk : zs.length ≤ 1048576) (hm : ∀ r ∈ rows, r.length ≤ 1048576) (hw : ls.length ≤ 1048576) (h1 : Hid (sampleB rows zs = true)) (h2 : Hid (ceB rows zs ls = true)) :
    Calls Try.prog 54 #[.agg #[.slice a rows.length c, .slice a' zs.length c'], .slice p ls.length q] w (RetAB (pointC rows zs ls) true w) := by
  have HCF := Lib.hid (CF.of h1.out h2.out)
  have HIY := Lib.hid (fun (wa : World) (hb : Below w.heap.size w wa) => by have h7 := impl_yes a rows c a' zs c' p ls q wa (hr.below hb) (hz.below hb) (hq.below hb) hn hk hm hw h1; rw [h2.out] at h7; exact h7)
  have HMM := Lib.hid hm
  clear hm
  have Hhr := Lib.hid hr
  have Hhz := Lib.hid hz
  have Hhq := Lib.hid hq
  clear hr hz hq
  go_enter Try.func54, Try.ntmps54
  go_wp2_with fail
  have x0_0 : (w.alloc (.cells #[.slice a rows.length c, .slice a' zs.length c'] 55)).cell? ⟨w.heap.size, 0, none⟩ = some (.slice a rows.length c) := cell_new _ _ _ (by simp) rfl
  have x0_1 : (w.alloc (.cells #[.slice a rows.length c, .slice a' zs.length c'] 55)).cell? ⟨w.heap.size, 1, none⟩ = some (.slice a' zs.length c') := cell_new _ _ _ (by simp) rfl
  have HB0 := Lib.hid (below_alloc w (.cells #[.slice a rows.length c, .slice a' zs.length c'] 55))
  have s0 : w.heap.size + 1 ≤ (w.alloc (.cells #[.slice a rows.length c, .slice a' zs.length c'] 55)).heap.size := by simp
  generalize hw : (w.alloc (.cells #[.slice a rows.length c, .slice a' zs.length c'] 55)) = w0 at *
  clear hw
  have n0_0 : w.heap.size < w0.heap.size := by omega
  refine (HIY.out _ HB0.out).mono ?_
  rintro e w1 ⟨rfl, hb⟩
  have s1 : w0.heap.size ≤ w1.heap.size := hb.size
  have n1_0 : w.heap.size < w1.heap.size := by omega
  replace x0_0 := cell_below hb x0_0 (by omega)
  replace x0_1 := cell_below hb x0_1 (by omega)
  have HB1 := Lib.hid (HB0.out.trans (hb.mono (by omega)))
  clear hb
  go_wp2_with fail
  refine (impl_sums a rows c a' zs c' p ls q 1 _ (Hhr.out.below HB1.out) (Hhz.out.below HB1.out) (Hhq.out.below HB1.out) HCF.out.sf).mono ?_
  rintro e w2 ⟨v, rfl, hos, hb⟩
  obtain ⟨ps, qs, rfl, hrs, _, _⟩ := hos.slice
  have HOS := Lib.hid hos
  clear hrs hos
  obtain ⟨i0, hi, hz0, hz1, hz2⟩ := info_parts infoA
  have hcf1 := HCF.out.len
  have hcf2 := HCF.out.pos
  have hcf3 := HCF.out.bd
  have HPC := Lib.hid (show pointC rows zs ls = ptsTo (sumC rows zs ls) (rows.getD 0 []).length from rfl)
  have hd4 := HCF.out.sf.d4
  have HOS' := Lib.hid (show OwnI w1.heap.size w2.heap.size w2 (.slice ps (sumC rows zs ls).length qs) (sumC rows zs ls) from HOS.out)
  have hSl : (sumsTo rows zs ls 1 (rows.getD 0 []).length rows.length).length = (rows.getD 0 []).length + 1 := sums_length ..
  rw [hSl]
  rw [hcf1] at HOS'
  generalize sumC rows zs ls = S at *
  generalize (rows.getD 0 []).length = d at *
  have HCB := Lib.hid hcf3
  have HC0 := Lib.hid hcf2
  have HSl := Lib.hid hcf1
  clear hSl HOS hcf1 hcf2 hcf3 HCF HMM Hhr Hhz Hhq h1 h2 HIY
  have s2 : w1.heap.size ≤ w2.heap.size := hb.size
  have n2_0 : w.heap.size < w2.heap.size := by omega
  replace x0_0 := cell_below hb x0_0 (by omega)
  replace x0_1 := cell_below hb x0_1 (by omega)
  have HB2 := Lib.hid (HB1.out.trans (hb.mono (by omega)))
  clear hb
  obtain ⟨g9, c9, e9, _, _⟩ := HOS'.out.1.form (by have := HSl.out; omega)
  simp only [Value.slice.injEq] at e9
  obtain ⟨rfl, e7, rfl⟩ := e9
  clear e7
  have hg9 := HOS'.out.lt (g := g9) rfl
  clear x0_0 x0_1 HB0 HB1
  have ed : IntKind.i64.wrap ((d : Int) + 1 - 1) = (d : Int) := by rw [show (d : Int) + 1 - 1 = (d : Int) by omega]; exact IntWalk.i64_in _ (by omega)
  go_wp2_with (refine wpList_make_full _ rfl _ _ 69 rfl w2.heap.size 131 i0 (.agg #[.int .i64 0, .int .i64 0]) 2 Try.underlying69 hi hz0 hz1 .i64 .i64 (d : Int) (d : Int) d rfl rfl rfl rfl (by rw [hz2]; omega) (by unfold maxLen; omega) (Nat.le_refl _) ?_; intro w3 hown1 hgrow1; refine Hid.out ?_)
  refine Lib.hid ?_
  rw [z_made S hd4, ← z_length (S := S) (Nat.zero_le d)] at hown1
  have hb3 : Below w2.heap.size w2 w3 := (Below.refl _ _).grown hgrow1 (Nat.le_refl _) (by simp)
  have HO3 := Lib.hid (show OwnA w2.heap.size (w2.heap.size + 1) w3 (.slice (some ⟨w2.heap.size, 0, none⟩) d d) (ptsZ S d 0) from by
    refine ⟨?_, fun g e => by (have e2 : w2.heap.size = g := by simpa [Value.ownBlock] using e); omega⟩
    rw [z_length (S := S) (Nat.zero_le d)] at hown1 ⊢
    exact hown1)
  have HB3 := Lib.hid hb3
  clear hown1 hgrow1 hb3
  go_wp2_with fail
  go_loopw [34] (fun i wr => ∃ k : Nat, k ≤ d ∧ i = .int .i64 k ∧ OwnA w2.heap.size (w2.heap.size + 1) wr (.slice (some ⟨w2.heap.size, 0, none⟩) d d) (ptsZ S d k) ∧ Below w2.heap.size w2 wr) (fun i _ => d - (intOf i).toNat)
  case atStart => exact ⟨0, Nat.zero_le _, rfl, HO3.out, HB3.out⟩
  case round =>
    clear HO3 HB3
    obtain ⟨k, hk, rfl, ho, hbel⟩ := hrel
    have HO := Lib.hid ho
    have HBl := Lib.hid hbel
    by_cases hlt : k < d
    · obtain ⟨sb, so, hsb, hsl, hc⟩ := HOS'.out.reads.at (k := k + 1) (by have := HSl.out; omega)
      obtain ⟨sb', so', hsb', _, hd⟩ := HOS'.out.reads.at (k := 0) (by have := HSl.out; omega)
      obtain ⟨rfl, rfl⟩ : g9 = sb ∧ 0 = so := by cases hsb; exact ⟨rfl, rfl⟩
      obtain ⟨rfl, rfl⟩ : g9 = sb' ∧ 0 = so' := by cases hsb'; exact ⟨rfl, rfl⟩
      rw [Nat.zero_add] at hc hd
      replace hc := cell_below hbel hc (by omega)
      replace hd := cell_below hbel hd (by omega)
      have hx := HCB.out (k + 1) (by omega)
      have h0 := HCB.out 0 (by omega)
      have hp := HC0.out
      have HPS0 := z_set (S := S) hlt
      obtain ⟨n0, hn0⟩ : ∃ n0 : Nat, (S.getD 0 0).toNat = n0 := ⟨_, rfl⟩
      have hn1 : S.getD 0 0 = (n0 : Int) := by omega
      have hp0 : 0 < n0 := by omega
      have hn2 : n0 ≤ 1000000000000 := by omega
      rw [hn0] at HPS0
      rw [hn1] at hd
      clear hn0 hn1 hp h0
      generalize S.getD (k + 1) 0 = x at *
      have HPS := Lib.hid HPS0
      clear HPS0 hsb hsb'
      obtain ⟨hx1, hx2⟩ := hx
      have i1 : (0 : Int) ≤ (k : Int) := by omega
      have i2 : (k : Int) < (d : Int) := by omega
      have i3 : (0 : Int) < (d : Int) + 1 := by omega
      have i4 : (0 : Int) ≤ 1 + (k : Int) := by omega
      have i5 : (1 + (k : Int)).toNat = k + 1 := by omega
      have i6 : 1 + (k : Int) < (d : Int) + 1 := by omega
      have i7 : IntKind.i64.wrap (1 + (k : Int)) = 1 + (k : Int) := IntWalk.i64_in _ (by omega)
      have hgo := ho.lt (g := w2.heap.size) rfl
      clear ho hbel
      go_wp2_with fail
      refine wp_region_noPanic ?_
      refine wp_region_held_drew (S := fun w' => w'.cell? ⟨g9, k + 1, none⟩ = some (.int .i64 x) ∧ w'.cell? ⟨g9, 0, none⟩ = some (.int .i64 (n0 : Int))) (by kernel_rfl) ?_ (fun hHeld => ?_)
      · exact ⟨hc, hd⟩
      have hb : Below wr.heap.size wr wr.drew := (Below.refl _ _).drew
      generalize hwn : wr.drew = v11 at *
      clear hwn
      have sz11 : wr.heap.size ≤ v11.heap.size := hb.size
      replace hc := cell_keep hb hc
      replace hd := cell_keep hb hd
      replace HO := Lib.hid (HO.out.below hb)
      have HBh11 := Lib.hid (HBl.out.trans (hb.mono (by have := HBl.out.size; omega)))
      clear hb
      refine wpAnyH_take (i := 0) (v := ?_) rfl (by kernel_rfl) (by kernel_rfl) (by kernel_rfl) (fun _ _ _ h => h) (Or.inl ⟨by rfl, ?_⟩) (by assumption) ?_
      rotate_left
      · intro w9 hSw; (try dsimp only at hSw); go_simp; try with_reducible rfl
      try simp only [List.getElem_toArray, List.getElem_cons_succ, List.getElem_cons_zero, Act.put, List.setIfInBounds_toArray, List.set_cons_zero, List.set_cons_succ]
      refine wpAnyH_take (i := 1) (v := ?_) rfl (by kernel_rfl) (by kernel_rfl) (by kernel_rfl) (fun _ _ _ h => h) (Or.inl ⟨by rfl, ?_⟩) (by assumption) ?_
      rotate_left
      · intro w9 hSw; (try dsimp only at hSw); go_simp; try with_reducible rfl
      try simp only [List.getElem_toArray, List.getElem_cons_succ, List.getElem_cons_zero, Act.put, List.setIfInBounds_toArray, List.set_cons_zero, List.set_cons_succ]
      refine wpAnyH_take (i := 2) (v := ?_) rfl (by kernel_rfl) (by kernel_rfl) (by kernel_rfl) (fun _ _ _ h => h) (Or.inl ⟨by rfl, ?_⟩) (by assumption) ?_
      rotate_left
      · intro w9 hSw; (try dsimp only at hSw); go_simp; try with_reducible rfl
      try simp only [List.getElem_toArray, List.getElem_cons_succ, List.getElem_cons_zero, Act.put, List.setIfInBounds_toArray, List.set_cons_zero, List.set_cons_succ]
      refine wpAnyH_take (i := 3) (v := ?_) rfl (by kernel_rfl) (by kernel_rfl) (by kernel_rfl) (fun _ _ _ h => h) (Or.inl ⟨by rfl, ?_⟩) (by assumption) ?_
      rotate_left
      · intro w9 hSw; (try dsimp only at hSw); go_simp; try with_reducible rfl
      try simp only [List.getElem_toArray, List.getElem_cons_succ, List.getElem_cons_zero, Act.put, List.setIfInBounds_toArray, List.set_cons_zero, List.set_cons_succ]
      refine wpAnyH_take (i := 4) (v := ?_) rfl (by kernel_rfl) (by kernel_rfl) (by kernel_rfl) (fun _ _ _ h => h) (Or.inl ⟨by rfl, ?_⟩) (by assumption) ?_
      rotate_left
      · intro w9 hSw; (try dsimp only at hSw); go_simp; try with_reducible rfl
      try simp only [List.getElem_toArray, List.getElem_cons_succ, List.getElem_cons_zero, Act.put, List.setIfInBounds_toArray, List.set_cons_zero, List.set_cons_succ]
      refine wpAnyH_take (i := 5) (v := ?_) rfl (by kernel_rfl) (by kernel_rfl) (by kernel_rfl) (fun _ _ _ h => h) (Or.inl ⟨by rfl, ?_⟩) (by assumption) ?_
      rotate_left
      · intro w9 hSw; (try dsimp only at hSw); go_simp; try with_reducible rfl
      try simp only [List.getElem_toArray, List.getElem_cons_succ, List.getElem_cons_zero, Act.put, List.setIfInBounds_toArray, List.set_cons_zero, List.set_cons_succ]
      refine wpAnyH_take (i := 6) (v := ?_) rfl (by kernel_rfl) (by kernel_rfl) (by kernel_rfl) (fun _ _ _ h => h) (Or.inl ⟨by rfl, ?_⟩) (by assumption) ?_
      rotate_left
      · intro w9 hSw; (try dsimp only at hSw); go_simp; try with_reducible rfl
      try simp only [List.getElem_toArray, List.getElem_cons_succ, List.getElem_cons_zero, Act.put, List.setIfInBounds_toArray, List.set_cons_zero, List.set_cons_succ]
      refine wpAnyH_take (i := 7) (v := ?_) rfl (by kernel_rfl) (by kernel_rfl) (by kernel_rfl) (fun _ _ _ h => h) (Or.inl ⟨by rfl, ?_⟩) (by assumption) ?_
      rotate_left
      · intro w9 hSw; (try dsimp only at hSw); go_simp; try with_reducible rfl
      try simp only [List.getElem_toArray, List.getElem_cons_succ, List.getElem_cons_zero, Act.put, List.setIfInBounds_toArray, List.set_cons_zero, List.set_cons_succ]
      refine wpAnyH_ready (rs := [8]) (by kernel_rfl) (by simp) ?_
      refine AllReadyH.cons rfl (fun K hK => ?_) AllReadyH.nil
      clear hHeld
      go_simp
      have px_0 : (v11.alloc (.cells #[.int .i64 x, .int .i64 (n0 : Int)] 3)).cell? ⟨v11.heap.size, 0, none⟩ = some (.int .i64 x) := cell_new _ _ _ rfl rfl
      have px_f0 : (v11.alloc (.cells #[.int .i64 x, .int .i64 (n0 : Int)] 3)).frozen? ⟨v11.heap.size, 0, none⟩ = false := fro_new _ _ _ rfl
      have px_1 : (v11.alloc (.cells #[.int .i64 x, .int .i64 (n0 : Int)] 3)).cell? ⟨v11.heap.size, 1, none⟩ = some (.int .i64 (n0 : Int)) := cell_new _ _ _ rfl rfl
      have px_f1 : (v11.alloc (.cells #[.int .i64 x, .int .i64 (n0 : Int)] 3)).frozen? ⟨v11.heap.size, 1, none⟩ = false := fro_new _ _ _ rfl
      have hb := below_alloc v11 (.cells #[.int .i64 x, .int .i64 (n0 : Int)] 3)
      have lt_px := size_alloc' v11 (.cells #[.int .i64 x, .int .i64 (n0 : Int)] 3)
      generalize hwn : v11.alloc (.cells #[.int .i64 x, .int .i64 (n0 : Int)] 3) = v12 at *
      clear hwn
      have sz12 : v11.heap.size ≤ v12.heap.size := hb.size
      replace hc := cell_keep hb hc
      replace hd := cell_keep hb hd
      replace HO := Lib.hid (HO.out.below hb)
      have HBh12 := Lib.hid (HBh11.out.trans (hb.mono (by have := HBh11.out.size; omega)))
      clear hb
      obtain ⟨Bpx, hBpx⟩ : ∃ Bpx : Nat, Bpx = v11.heap.size := ⟨_, rfl⟩
      rw [← hBpx] at px_0 px_f0 px_1 px_f1 ⊢
      have hBlpx : Bpx ≤ v11.heap.size ∧ v11.heap.size ≤ Bpx := by omega
      clear hBpx
      refine hK.out _ _ ?_ (fun hHeld => ?_)
      · exact ⟨hc, hd⟩
      clear hK K
      try simp only [List.getElem_toArray, List.getElem_cons_succ, List.getElem_cons_zero, Act.put, List.setIfInBounds_toArray, List.set_cons_zero, List.set_cons_succ]
      refine wpAnyH_ready (rs := [9]) (by kernel_rfl) (by simp) ?_
      refine AllReadyH.cons rfl (fun K hK => ?_) AllReadyH.nil
      clear hHeld
      go_simp
      refine (impl_div (some ⟨Bpx, 0, none⟩) x n0 2 _ (reads_two px_0 px_1 (block_lt_of_cell (a := ⟨Bpx, 0, none⟩) px_0)) hp0 hx1 hx2 hn2).mono ?_
      rintro e v13 ⟨v, rfl, ho, hb⟩
      obtain ⟨pa, pc, rfl, _, _, _⟩ := ho.slice
      have sz13 : v12.heap.size ≤ v13.heap.size := hb.size
      replace px_f0 := fro_keep hb px_0 px_f0
      replace px_f1 := fro_keep hb px_1 px_f1
      replace hc := cell_keep hb hc
      replace hd := cell_keep hb hd
      replace px_0 := cell_keep hb px_0
      replace px_1 := cell_keep hb px_1
      replace HO := Lib.hid (HO.out.below hb)
      have HBh13 := Lib.hid (HBh12.out.trans (hb.mono (by have := HBh12.out.size; omega)))
      clear hb
      have HPR := Lib.hid ho
      have szl_HPR : v12.heap.size ≤ v13.heap.size := sz13
      clear ho
      refine hK.out _ _ ?_ (fun hHeld => ?_)
      · exact ⟨hc, hd⟩
      clear hK K
      try simp only [List.getElem_toArray, List.getElem_cons_succ, List.getElem_cons_zero, Act.put, List.setIfInBounds_toArray, List.set_cons_zero, List.set_cons_succ]
      refine wpAnyH_take (i := 10) (v := ?_) rfl (by kernel_rfl) (by kernel_rfl) (by kernel_rfl) (fun _ _ _ h => h) (Or.inl ⟨by rfl, ?_⟩) (by assumption) ?_
      rotate_left
      · intro w9 hSw; (try dsimp only at hSw); go_simp; try with_reducible rfl
      try simp only [List.getElem_toArray, List.getElem_cons_succ, List.getElem_cons_zero, Act.put, List.setIfInBounds_toArray, List.set_cons_zero, List.set_cons_succ]
      refine wpAnyH_done (by kernel_rfl) ?_ _
      refine NoPanic.normal ?_
      clear hHeld
      obtain ⟨g7, c7, e7, _, _⟩ := HPR.out.1.form (by simp)
      simp only [Value.slice.injEq] at e7
      obtain ⟨rfl, e8, rfl⟩ := e7
      clear e8
      have hq0 : v13.cell? ⟨g7, 0, none⟩ = some (.int .i64 (cutP x n0).1) := own_cell HPR.out rfl 0 (by simp)
      have hq1 : v13.cell? ⟨g7, 1, none⟩ = some (.int .i64 (cutP x n0).2) := own_cell HPR.out rfl 1 (by simp)
      have hg7 := HPR.out.lt (g := g7) rfl
      obtain ⟨gz, oz, ez, _, r0, r1⟩ := HO.out.reads.at (k := k) (by rw [z_length hk]; exact hlt)
      obtain ⟨rfl, rfl⟩ : w2.heap.size = gz ∧ 0 = oz := by cases ez; exact ⟨rfl, rfl⟩
      rw [Nat.zero_add] at r0 r1
      clear ez
      have hop : v13.ownsRow w2.heap.size 131 2 (.slice (some ⟨w2.heap.size, 0, none⟩) d d) d ((flatP (ptsZ S d k)).map (Value.int .i64)) := by have h7 := HO.out.1; rw [z_length hk] at h7; exact h7
      have f0 := hop.frozenAt (k * 2)
      have f1 := hop.frozenAt (k * 2 + 1)
      clear hop HPR hc hd px_0 px_1 px_f0 px_f1
      go_wp2_with fail
      refine wp_region_noPanic ?_
      refine wp_region_held_drew (S := fun w' => w'.cell? ⟨g7, 0, none⟩ = some (.int .i64 (cutP x n0).1) ∧ w'.cell? ⟨g7, 1, none⟩ = some (.int .i64 (cutP x n0).2)) (by kernel_rfl) ?_ (fun hHeld => ?_)
      · exact ⟨hq0, hq1⟩
      have hb : Below v13.heap.size v13 v13.drew := (Below.refl _ _).drew
      generalize hwn : v13.drew = v24 at *
      clear hwn
      have sz24 : v13.heap.size ≤ v24.heap.size := hb.size
      replace f0 := fro_keep hb r0 f0
      replace f1 := fro_keep hb r1 f1
      replace hq0 := cell_keep hb hq0
      replace hq1 := cell_keep hb hq1
      replace r0 := cell_keep hb r0
      replace r1 := cell_keep hb r1
      replace HO := Lib.hid (HO.out.below hb)
      have HBh24 := Lib.hid (HBh13.out.trans (hb.mono (by have := HBh13.out.size; omega)))
      clear hb
      refine wpAnyH_take (i := 0) (v := ?_) rfl (by kernel_rfl) (by kernel_rfl) (by kernel_rfl) (fun _ _ _ h => h) (Or.inl ⟨by rfl, ?_⟩) (by assumption) ?_
      rotate_left
      · intro w9 hSw; (try dsimp only at hSw); go_simp; try with_reducible rfl
      try simp only [List.getElem_toArray, List.getElem_cons_succ, List.getElem_cons_zero, Act.put, List.setIfInBounds_toArray, List.set_cons_zero, List.set_cons_succ]
      refine wpAnyH_take (i := 1) (v := ?_) rfl (by kernel_rfl) (by kernel_rfl) (by kernel_rfl) (fun _ _ _ h => h) (Or.inl ⟨by rfl, ?_⟩) (by assumption) ?_
      rotate_left
      · intro w9 hSw; (try dsimp only at hSw); go_simp; try with_reducible rfl
      try simp only [List.getElem_toArray, List.getElem_cons_succ, List.getElem_cons_zero, Act.put, List.setIfInBounds_toArray, List.set_cons_zero, List.set_cons_succ]
      refine wpAnyH_take (i := 2) (v := ?_) rfl (by kernel_rfl) (by kernel_rfl) (by kernel_rfl) (fun _ _ _ h => h) (Or.inl ⟨by rfl, ?_⟩) (by assumption) ?_
      rotate_left
      · intro w9 hSw; (try dsimp only at hSw); go_simp; try with_reducible rfl
      try simp only [List.getElem_toArray, List.getElem_cons_succ, List.getElem_cons_zero, Act.put, List.setIfInBounds_toArray, List.set_cons_zero, List.set_cons_succ]
      refine wpAnyH_take (i := 3) (v := ?_) rfl (by kernel_rfl) (by kernel_rfl) (by kernel_rfl) (fun _ _ _ h => h) (Or.inl ⟨by rfl, ?_⟩) (by assumption) ?_
      rotate_left
      · intro w9 hSw; (try dsimp only at hSw); go_simp; try with_reducible rfl
      try simp only [List.getElem_toArray, List.getElem_cons_succ, List.getElem_cons_zero, Act.put, List.setIfInBounds_toArray, List.set_cons_zero, List.set_cons_succ]
      refine wpAnyH_take (i := 4) (v := ?_) rfl (by kernel_rfl) (by kernel_rfl) (by kernel_rfl) (fun _ _ _ h => h) (Or.inl ⟨by rfl, ?_⟩) (by assumption) ?_
      rotate_left
      · intro w9 hSw; (try dsimp only at hSw); go_simp; try with_reducible rfl
      try simp only [List.getElem_toArray, List.getElem_cons_succ, List.getElem_cons_zero, Act.put, List.setIfInBounds_toArray, List.set_cons_zero, List.set_cons_succ]
      refine wpAnyH_take (i := 5) (v := ?_) rfl (by kernel_rfl) (by kernel_rfl) (by kernel_rfl) (fun _ _ _ h => h) (Or.inl ⟨by rfl, ?_⟩) (by assumption) ?_
      rotate_left
      · intro w9 hSw; (try dsimp only at hSw); go_simp; try with_reducible rfl
      try simp only [List.getElem_toArray, List.getElem_cons_succ, List.getElem_cons_zero, Act.put, List.setIfInBounds_toArray, List.set_cons_zero, List.set_cons_succ]
      refine wpAnyH_take (i := 6) (v := ?_) rfl (by kernel_rfl) (by kernel_rfl) (by kernel_rfl) (fun _ _ _ h => h) (Or.inl ⟨by rfl, ?_⟩) (by assumption) ?_
      rotate_left
      · intro w9 hSw; (try dsimp only at hSw); go_simp; try with_reducible rfl
      try simp only [List.getElem_toArray, List.getElem_cons_succ, List.getElem_cons_zero, Act.put, List.setIfInBounds_toArray, List.set_cons_zero, List.set_cons_succ]
      refine wpAnyH_take (i := 7) (v := ?_) rfl (by kernel_rfl) (by kernel_rfl) (by kernel_rfl) (fun _ _ _ h => h) (Or.inl ⟨by rfl, ?_⟩) (by assumption) ?_
      rotate_left
      · intro w9 hSw; (try dsimp only at hSw); go_simp; try with_reducible rfl
      try simp only [List.getElem_toArray, List.getElem_cons_succ, List.getElem_cons_zero, Act.put, List.setIfInBounds_toArray, List.set_cons_zero, List.set_cons_succ]
      refine wpAnyH_take (i := 8) (v := ?_) rfl (by kernel_rfl) (by kernel_rfl) (by kernel_rfl) (fun _ _ _ h => h) (Or.inl ⟨by rfl, ?_⟩) (by assumption) ?_
      rotate_left
      · intro w9 hSw; (try dsimp only at hSw); go_simp; try with_reducible rfl
      try simp only [List.getElem_toArray, List.getElem_cons_succ, List.getElem_cons_zero, Act.put, List.setIfInBounds_toArray, List.set_cons_zero, List.set_cons_succ]
      refine wpAnyH_take (i := 9) (v := ?_) rfl (by kernel_rfl) (by kernel_rfl) (by kernel_rfl) (fun _ _ _ h => h) (Or.inl ⟨by rfl, ?_⟩) (by assumption) ?_
      rotate_left
      · intro w9 hSw; (try dsimp only at hSw); go_simp; try with_reducible rfl
      try simp only [List.getElem_toArray, List.getElem_cons_succ, List.getElem_cons_zero, Act.put, List.setIfInBounds_toArray, List.set_cons_zero, List.set_cons_succ]
      refine wpAnyH_ready (rs := [10]) (by kernel_rfl) (by simp) ?_
      refine AllReadyH.cons rfl (fun K hK => ?_) AllReadyH.nil
      clear hHeld
      go_simp
      have hg : v24.grownBy ((v24.setCell ⟨w2.heap.size, k * 2, none⟩ (.int .i64 (cutP x n0).1)).setCell ⟨w2.heap.size, k * 2 + 1, none⟩ (.int .i64 (cutP x n0).2)) (some (w2.heap.size)) := grown_trans (grown_set _ _ _ _) (grown_set _ _ _ _)
      have HON := Lib.hid (own_setA HO.out (z_length hk).symm k (cutP x n0))
      rw [HPS.out] at HON
      clear HO r0 r1 f0 f1
      generalize hwn : ((v24.setCell ⟨w2.heap.size, k * 2, none⟩ (.int .i64 (cutP x n0).1)).setCell ⟨w2.heap.size, k * 2 + 1, none⟩ (.int .i64 (cutP x n0).2)) = v25 at *
      clear hwn
      have sz25 : v24.heap.size ≤ v25.heap.size := hg.size
      replace hq0 := cell_grow hg hq0 (fun g e => by (have e2 : w2.heap.size = g := by simpa using e); omega)
      replace hq1 := cell_grow hg hq1 (fun g e => by (have e2 : w2.heap.size = g := by simpa using e); omega)
      have HBh25 := Lib.hid (HBh24.out.grown hg (by have := HBh24.out.size; omega) (fun g e => by (have e2 : w2.heap.size = g := by simpa using e); omega))
      refine hK.out _ _ ?_ (fun hHeld => ?_)
      · exact ⟨hq0, hq1⟩
      clear hK K
      try simp only [List.getElem_toArray, List.getElem_cons_succ, List.getElem_cons_zero, Act.put, List.setIfInBounds_toArray, List.set_cons_zero, List.set_cons_succ]
      refine wpAnyH_done (by kernel_rfl) ?_ _
      refine NoPanic.normal ?_
      clear hHeld
      go_wp2_with fail
      go_roundw
      case rel => exact ⟨k + 1, by omega, by go_num, HON.out, HBh25.out⟩
      case measure => simp [intOf]; omega
    · obtain rfl : k = d := by omega
      have HF := Lib.hid (show RetAB (ptsTo S k) true w (.returned (.tuple #[.slice (some ⟨w2.heap.size, 0, none⟩) k k, .bool true])) wr from ⟨_, rfl, by (have h7 := HO.out; rw [z_all] at h7; have := hbel.size; have := (h7.lt (g := w2.heap.size) rfl).2.2; exact h7.mono (by omega) (by omega)), HB2.out.trans (hbel.mono (by omega))⟩)
      clear ho hbel
      go_wp2_with fail
      go_ret2
      exact by rw [HPC.out]; exact HF.out
end Go.Proofs.Ytplhcboecjegjaa.commoni
