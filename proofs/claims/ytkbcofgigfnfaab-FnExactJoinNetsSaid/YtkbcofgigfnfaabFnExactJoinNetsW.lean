/- The walk of FnExactJoinNets, from what the model's function and the program's return. -/
import Derived.Test.YtkbcofgigfnfaabNetFns
import Derived.Test.YtkbcofgigfnfaabIntFns
import Derived.Test.YtkbcofgigfnfaabOwnG
import Derived.Deep.RegionHeld3
import Derived.Deep.DeepCutAuto
namespace Go.Proofs.Ytkbcofgigfnfaab.fnExactJoinNetsw
open Go.RowKit own
set_option linter.unusedVariables false
set_option linter.unusedSimpArgs false

theorem cell_keep {W W' : World} (h : Below W.heap.size W W') {b o : Nat} {x : Value} (hx : W.cell? ⟨b, o, none⟩ = some x) : W'.cell? ⟨b, o, none⟩ = some x :=
  cell_below h hx (block_lt_of_cell (a := ⟨b, o, none⟩) hx)
theorem fro_keep {W W' : World} (h : Below W.heap.size W W') {b o o' : Nat} {x : Value} (hx : W.cell? ⟨b, o', none⟩ = some x) (hf : W.frozen? ⟨b, o, none⟩ = false) : W'.frozen? ⟨b, o, none⟩ = false :=
  fro_below h hf (block_lt_of_cell (a := ⟨b, o', none⟩) hx)
theorem cell_grow {W W' : World} {row : Option Nat} (h : W.grownBy W' row) {b o : Nat} {x : Value} (hx : W.cell? ⟨b, o, none⟩ = some x) (hne : ∀ g, row = some g → b ≠ g) : W'.cell? ⟨b, o, none⟩ = some x :=
  (World.cell?_of_block (h.block b (block_lt_of_cell (a := ⟨b, o, none⟩) hx) (fun e => hne b e.symm rfl))).trans hx
theorem fro_grow {W W' : World} {row : Option Nat} (h : W.grownBy W' row) {b o o' : Nat} {x : Value} (hx : W.cell? ⟨b, o', none⟩ = some x) (hf : W.frozen? ⟨b, o, none⟩ = false) (hne : ∀ g, row = some g → b ≠ g) : W'.frozen? ⟨b, o, none⟩ = false :=
  (World.frozen?_of_block (a := ⟨b, o, none⟩) (h.block b (block_lt_of_cell (a := ⟨b, o', none⟩) hx) (fun e => hne b e.symm rfl))).trans hf
theorem cell_set2 {W : World} {b o b' o' : Nat} {x : Value} (hx : W.cell? ⟨b, o, none⟩ = some x) (hne : b ≠ b') (u : Value) : (W.setCell ⟨b', o', none⟩ u).cell? ⟨b, o, none⟩ = some x :=
  (World.cell?_of_block (Below.heap_setCell _ _ _ _ (by show b ≠ b'; exact hne))).trans hx
theorem grown_set (W : World) (b o : Nat) (u : Value) : W.grownBy (W.setCell ⟨b, o, none⟩ u) (some b) :=
  ⟨rfl, rfl, rfl, by rw [size_set]; exact Nat.le_refl _, fun k hk hne => Below.heap_setCell _ _ _ _ (fun e => hne (by rw [e]))⟩
theorem grown_trans {W W1 W2 : World} {row : Option Nat} (h : W.grownBy W1 row) (k : W1.grownBy W2 row) : W.grownBy W2 row :=
  ⟨k.os.trans h.os, k.tape.trans h.tape, k.output.trans h.output, Nat.le_trans h.size k.size, fun i hi hn => (k.block i (Nat.lt_of_lt_of_le hi h.size) hn).trans (h.block i hi hn)⟩
theorem own_grow {W W' : World} {row : Option Nat} (h : W.grownBy W' row) {lo hi : Nat} {v : Value} {ls : List (List (List Int × Int))} (ho : OwnL lo hi W v ls) (hne : ∀ g, row = some g → g < lo ∨ hi ≤ g) : OwnL lo hi W' v ls := by
  cases row with
  | none => exact ho.only (lo' := 0) (hi' := 0) (Only.of_grown h (fun g e => by cases e)) (.inr (Nat.zero_le _))
  | some g => exact ho.only (lo' := g) (hi' := g + 1) (Only.of_grown h (fun g' e => by cases e; exact ⟨Nat.le_refl _, Nat.lt_succ_self _⟩)) (by have := hne g rfl; omega)
set_option maxHeartbeats 1000000 in
theorem exit_sz0 (a0 : Option Addr) (ls0 : List (List (List Int × Int))) (c0 : Nat) (t0 : Int) (a1 : Option Addr) (ls1 : List (List (List Int × Int))) (c1 : Nat) (t1 : Int) (w : World) (hr0 : ReadsL w a0 ls0) (hr1 : ReadsL w a1 ls1) (hl0 : ls0.length ≤ 9223372036854775807) (hm0 : ∀ x ∈ ls0, x.length ≤ 9223372036854775807 ∧ ∀ y ∈ x, y.1.length ≤ 9223372036854775807) (hl1 : ls1.length ≤ 9223372036854775807) (hm1 : ∀ x ∈ ls1, x.length ≤ 9223372036854775807 ∧ ∀ y ∈ x, y.1.length ≤ 9223372036854775807)  (hx : 1048576 < (ls0.length : Int) + (totL ls0 : Int)) : Calls Try.prog 6 #[.agg #[.int .i64 t0, .slice a0 ls0.length c0], .agg #[.int .i64 t1, .slice a1 ls1.length c1]] w fun e w' => e = .returned (.bool true) ∧ Below w.heap.size w w' := by
  have HR0 := Lib.hid hr0
  have HR1 := Lib.hid hr1
  clear hr0 hr1
  have HM0 := Lib.hid hm0
  clear hm0
  have HM1 := Lib.hid hm1
  clear hm1
  go_enter Try.func6, Try.ntmps6
  go_wp2_with fail
  have x0_0 : (w.alloc (.cells #[.int .i64 t0, .slice a0 ls0.length c0] 40)).cell? ⟨w.heap.size, 0, none⟩ = some (.int .i64 t0) := cell_new _ _ _ (by simp) rfl
  have x0_1 : (w.alloc (.cells #[.int .i64 t0, .slice a0 ls0.length c0] 40)).cell? ⟨w.heap.size, 1, none⟩ = some (.slice a0 ls0.length c0) := cell_new _ _ _ (by simp) rfl
  have HB0 := Lib.hid (below_alloc w (.cells #[.int .i64 t0, .slice a0 ls0.length c0] 40))
  have s0_0 := size_alloc' w (.cells #[.int .i64 t0, .slice a0 ls0.length c0] 40)
  replace x0_0 := cell_old (.cells #[.int .i64 t1, .slice a1 ls1.length c1] 40) x0_0
  replace x0_1 := cell_old (.cells #[.int .i64 t1, .slice a1 ls1.length c1] 40) x0_1
  have x1_0 : ((w.alloc (.cells #[.int .i64 t0, .slice a0 ls0.length c0] 40)).alloc (.cells #[.int .i64 t1, .slice a1 ls1.length c1] 40)).cell? ⟨w.heap.size + 1, 0, none⟩ = some (.int .i64 t1) := cell_new _ _ _ (by simp) rfl
  have x1_1 : ((w.alloc (.cells #[.int .i64 t0, .slice a0 ls0.length c0] 40)).alloc (.cells #[.int .i64 t1, .slice a1 ls1.length c1] 40)).cell? ⟨w.heap.size + 1, 1, none⟩ = some (.slice a1 ls1.length c1) := cell_new _ _ _ (by simp) rfl
  replace HB0 := Lib.hid (HB0.out.alloc (by first | (simp; done) | (simp; omega)) (.cells #[.int .i64 t1, .slice a1 ls1.length c1] 40))
  have s0 : w.heap.size + 2 ≤ ((w.alloc (.cells #[.int .i64 t0, .slice a0 ls0.length c0] 40)).alloc (.cells #[.int .i64 t1, .slice a1 ls1.length c1] 40)).heap.size := by simp
  clear s0_0
  generalize hw : ((w.alloc (.cells #[.int .i64 t0, .slice a0 ls0.length c0] 40)).alloc (.cells #[.int .i64 t1, .slice a1 ls1.length c1] 40)) = w0 at *
  clear hw
  refine (netfns.sz_no _ ls0 _ _ _ _ (HR0.out.below HB0.out) (by omega) HM0.out (by omega) (by omega) (by omega)).mono ?_
  rintro e w1 ⟨rfl, hb⟩
  have s1 : w0.heap.size ≤ w1.heap.size := hb.size
  have n1_0 : w.heap.size < w1.heap.size := by omega
  have n1_1 : w.heap.size + 1 < w1.heap.size := by omega
  replace x0_0 := cell_below hb x0_0 (by omega)
  replace x0_1 := cell_below hb x0_1 (by omega)
  replace x1_0 := cell_below hb x1_0 (by omega)
  replace x1_1 := cell_below hb x1_1 (by omega)
  have HB1 := Lib.hid (HB0.out.trans (hb.mono (by omega)))
  clear hb
  go_wp2_with fail
  go_ret
  exact ⟨rfl, HB1.out⟩

set_option maxHeartbeats 1000000 in
theorem exit_sz1 (a0 : Option Addr) (ls0 : List (List (List Int × Int))) (c0 : Nat) (t0 : Int) (a1 : Option Addr) (ls1 : List (List (List Int × Int))) (c1 : Nat) (t1 : Int) (w : World) (hr0 : ReadsL w a0 ls0) (hr1 : ReadsL w a1 ls1) (hl0 : ls0.length ≤ 9223372036854775807) (hm0 : ∀ x ∈ ls0, x.length ≤ 9223372036854775807 ∧ ∀ y ∈ x, y.1.length ≤ 9223372036854775807) (hl1 : ls1.length ≤ 9223372036854775807) (hm1 : ∀ x ∈ ls1, x.length ≤ 9223372036854775807 ∧ ∀ y ∈ x, y.1.length ≤ 9223372036854775807)  (hb : (ls0.length : Int) + (totL ls0 : Int) ≤ 1048576) (hx : 1048576 < (ls0.length : Int) + (totL ls0 : Int) + (ls1.length : Int) + (totL ls1 : Int)) : Calls Try.prog 6 #[.agg #[.int .i64 t0, .slice a0 ls0.length c0], .agg #[.int .i64 t1, .slice a1 ls1.length c1]] w fun e w' => e = .returned (.bool true) ∧ Below w.heap.size w w' := by
  have HR0 := Lib.hid hr0
  have HR1 := Lib.hid hr1
  clear hr0 hr1
  have HM0 := Lib.hid hm0
  clear hm0
  have HM1 := Lib.hid hm1
  clear hm1
  go_enter Try.func6, Try.ntmps6
  go_wp2_with fail
  have x0_0 : (w.alloc (.cells #[.int .i64 t0, .slice a0 ls0.length c0] 40)).cell? ⟨w.heap.size, 0, none⟩ = some (.int .i64 t0) := cell_new _ _ _ (by simp) rfl
  have x0_1 : (w.alloc (.cells #[.int .i64 t0, .slice a0 ls0.length c0] 40)).cell? ⟨w.heap.size, 1, none⟩ = some (.slice a0 ls0.length c0) := cell_new _ _ _ (by simp) rfl
  have HB0 := Lib.hid (below_alloc w (.cells #[.int .i64 t0, .slice a0 ls0.length c0] 40))
  have s0_0 := size_alloc' w (.cells #[.int .i64 t0, .slice a0 ls0.length c0] 40)
  replace x0_0 := cell_old (.cells #[.int .i64 t1, .slice a1 ls1.length c1] 40) x0_0
  replace x0_1 := cell_old (.cells #[.int .i64 t1, .slice a1 ls1.length c1] 40) x0_1
  have x1_0 : ((w.alloc (.cells #[.int .i64 t0, .slice a0 ls0.length c0] 40)).alloc (.cells #[.int .i64 t1, .slice a1 ls1.length c1] 40)).cell? ⟨w.heap.size + 1, 0, none⟩ = some (.int .i64 t1) := cell_new _ _ _ (by simp) rfl
  have x1_1 : ((w.alloc (.cells #[.int .i64 t0, .slice a0 ls0.length c0] 40)).alloc (.cells #[.int .i64 t1, .slice a1 ls1.length c1] 40)).cell? ⟨w.heap.size + 1, 1, none⟩ = some (.slice a1 ls1.length c1) := cell_new _ _ _ (by simp) rfl
  replace HB0 := Lib.hid (HB0.out.alloc (by first | (simp; done) | (simp; omega)) (.cells #[.int .i64 t1, .slice a1 ls1.length c1] 40))
  have s0 : w.heap.size + 2 ≤ ((w.alloc (.cells #[.int .i64 t0, .slice a0 ls0.length c0] 40)).alloc (.cells #[.int .i64 t1, .slice a1 ls1.length c1] 40)).heap.size := by simp
  clear s0_0
  generalize hw : ((w.alloc (.cells #[.int .i64 t0, .slice a0 ls0.length c0] 40)).alloc (.cells #[.int .i64 t1, .slice a1 ls1.length c1] 40)) = w0 at *
  clear hw
  refine (netfns.sz_yes _ ls0 _ _ _ _ (HR0.out.below HB0.out) (by omega) (by omega)).mono ?_
  rintro e w1 ⟨rfl, hb⟩
  have s1 : w0.heap.size ≤ w1.heap.size := hb.size
  have n1_0 : w.heap.size < w1.heap.size := by omega
  have n1_1 : w.heap.size + 1 < w1.heap.size := by omega
  replace x0_0 := cell_below hb x0_0 (by omega)
  replace x0_1 := cell_below hb x0_1 (by omega)
  replace x1_0 := cell_below hb x1_0 (by omega)
  replace x1_1 := cell_below hb x1_1 (by omega)
  have HB1 := Lib.hid (HB0.out.trans (hb.mono (by omega)))
  clear hb
  go_wp2_with fail
  refine (netfns.sz_no _ ls1 _ _ _ _ (HR1.out.below HB1.out) (by omega) HM1.out (by omega) (by omega) (by omega)).mono ?_
  rintro e w2 ⟨rfl, hb⟩
  have s2 : w1.heap.size ≤ w2.heap.size := hb.size
  have n2_0 : w.heap.size < w2.heap.size := by omega
  have n2_1 : w.heap.size + 1 < w2.heap.size := by omega
  replace x0_0 := cell_below hb x0_0 (by omega)
  replace x0_1 := cell_below hb x0_1 (by omega)
  replace x1_0 := cell_below hb x1_0 (by omega)
  replace x1_1 := cell_below hb x1_1 (by omega)
  have HB2 := Lib.hid (HB1.out.trans (hb.mono (by omega)))
  clear hb
  go_wp2_with fail
  go_ret
  exact ⟨rfl, HB2.out⟩

theorem law_big (a0 : Option Addr) (ls0 : List (List (List Int × Int))) (c0 : Nat) (t0 : Int) (a1 : Option Addr) (ls1 : List (List (List Int × Int))) (c1 : Nat) (t1 : Int) (w : World) (hr0 : ReadsL w a0 ls0) (hr1 : ReadsL w a1 ls1) (hl0 : ls0.length ≤ 9223372036854775807) (hm0 : ∀ x ∈ ls0, x.length ≤ 9223372036854775807 ∧ ∀ y ∈ x, y.1.length ≤ 9223372036854775807) (hl1 : ls1.length ≤ 9223372036854775807) (hm1 : ∀ x ∈ ls1, x.length ≤ 9223372036854775807 ∧ ∀ y ∈ x, y.1.length ≤ 9223372036854775807) (hx : ¬ ((ls0.length : Int) + (totL ls0 : Int) + (ls1.length : Int) + (totL ls1 : Int) ≤ 1048576)) : Calls Try.prog 6 #[.agg #[.int .i64 t0, .slice a0 ls0.length c0], .agg #[.int .i64 t1, .slice a1 ls1.length c1]] w fun e w' => e = .returned (.bool true) ∧ Below w.heap.size w w' := by
  by_cases k0 : 1048576 < (ls0.length : Int) + (totL ls0 : Int)
  · exact exit_sz0 a0 ls0 c0 t0 a1 ls1 c1 t1 w hr0 hr1 hl0 hm0 hl1 hm1   k0
  by_cases k1 : 1048576 < (ls0.length : Int) + (totL ls0 : Int) + (ls1.length : Int) + (totL ls1 : Int)
  · exact exit_sz1 a0 ls0 c0 t0 a1 ls1 c1 t1 w hr0 hr1 hl0 hm0 hl1 hm1  (by omega) k1
  · exact absurd (by omega) hx

set_option maxRecDepth 100000 in
set_option maxHeartbeats 4000000 in
theorem law_small (a0 : Option Addr) (ls0 : List (List (List Int × Int))) (c0 : Nat) (t0 : Int) (a1 : Option Addr) (ls1 : List (List (List Int × Int))) (c1 : Nat) (t1 : Int) (r0 : List (List (List Int × Int))) (rt0 : Int) (ok : Bool) (w : World) (hr0 : ReadsL w a0 ls0) (hr1 : ReadsL w a1 ls1) (h0 : (ls0.length : Int) + (totL ls0 : Int) + (ls1.length : Int) + (totL ls1 : Int) ≤ 1048576) (hz0 : r0.length + totL r0 ≤ 1048576)
    (HSpec : Hid (∀ (a0 : Option Addr) (c0 : Nat) (a1 : Option Addr) (c1 : Nat) (w : World), ReadsL w a0 ls0 → ReadsL w a1 ls1 → Calls Try.prog 23 #[.agg #[.int .i64 t0, .slice a0 ls0.length c0], .agg #[.int .i64 t1, .slice a1 ls1.length c1]] w (RetTB r0 rt0 ok w)))
    (HImpl : Hid (∀ (a0 : Option Addr) (c0 : Nat) (a1 : Option Addr) (c1 : Nat) (w : World), ReadsL w a0 ls0 → ReadsL w a1 ls1 → Calls Try.prog 25 #[.agg #[.int .i64 t0, .slice a0 ls0.length c0], .agg #[.int .i64 t1, .slice a1 ls1.length c1]] w (RetTB r0 rt0 ok w))) :
    Calls Try.prog 6 #[.agg #[.int .i64 t0, .slice a0 ls0.length c0], .agg #[.int .i64 t1, .slice a1 ls1.length c1]] w fun e w' => e = .returned (.bool true) ∧ Below w.heap.size w w' := by
  have HR0 := Lib.hid hr0
  have HR1 := Lib.hid hr1
  clear hr0 hr1
  go_enter Try.func6, Try.ntmps6
  go_wp2_with fail
  have x0_0 : (w.alloc (.cells #[.int .i64 t0, .slice a0 ls0.length c0] 40)).cell? ⟨w.heap.size, 0, none⟩ = some (.int .i64 t0) := cell_new _ _ _ (by simp) rfl
  have x0_1 : (w.alloc (.cells #[.int .i64 t0, .slice a0 ls0.length c0] 40)).cell? ⟨w.heap.size, 1, none⟩ = some (.slice a0 ls0.length c0) := cell_new _ _ _ (by simp) rfl
  have HB0 := Lib.hid (below_alloc w (.cells #[.int .i64 t0, .slice a0 ls0.length c0] 40))
  have s0_0 := size_alloc' w (.cells #[.int .i64 t0, .slice a0 ls0.length c0] 40)
  replace x0_0 := cell_old (.cells #[.int .i64 t1, .slice a1 ls1.length c1] 40) x0_0
  replace x0_1 := cell_old (.cells #[.int .i64 t1, .slice a1 ls1.length c1] 40) x0_1
  have x1_0 : ((w.alloc (.cells #[.int .i64 t0, .slice a0 ls0.length c0] 40)).alloc (.cells #[.int .i64 t1, .slice a1 ls1.length c1] 40)).cell? ⟨w.heap.size + 1, 0, none⟩ = some (.int .i64 t1) := cell_new _ _ _ (by simp) rfl
  have x1_1 : ((w.alloc (.cells #[.int .i64 t0, .slice a0 ls0.length c0] 40)).alloc (.cells #[.int .i64 t1, .slice a1 ls1.length c1] 40)).cell? ⟨w.heap.size + 1, 1, none⟩ = some (.slice a1 ls1.length c1) := cell_new _ _ _ (by simp) rfl
  replace HB0 := Lib.hid (HB0.out.alloc (by first | (simp; done) | (simp; omega)) (.cells #[.int .i64 t1, .slice a1 ls1.length c1] 40))
  have s0 : w.heap.size + 2 ≤ ((w.alloc (.cells #[.int .i64 t0, .slice a0 ls0.length c0] 40)).alloc (.cells #[.int .i64 t1, .slice a1 ls1.length c1] 40)).heap.size := by simp
  clear s0_0
  generalize hw : ((w.alloc (.cells #[.int .i64 t0, .slice a0 ls0.length c0] 40)).alloc (.cells #[.int .i64 t1, .slice a1 ls1.length c1] 40)) = w0 at *
  clear hw
  refine (netfns.sz_yes _ ls0 _ _ _ _ (HR0.out.below HB0.out) (by omega) (by omega)).mono ?_
  rintro e w1 ⟨rfl, hb⟩
  have s1 : w0.heap.size ≤ w1.heap.size := hb.size
  have n1_0 : w.heap.size < w1.heap.size := by omega
  have n1_1 : w.heap.size + 1 < w1.heap.size := by omega
  replace x0_0 := cell_below hb x0_0 (by omega)
  replace x0_1 := cell_below hb x0_1 (by omega)
  replace x1_0 := cell_below hb x1_0 (by omega)
  replace x1_1 := cell_below hb x1_1 (by omega)
  have HB1 := Lib.hid (HB0.out.trans (hb.mono (by omega)))
  clear hb
  go_wp2_with fail
  refine (netfns.sz_yes _ ls1 _ _ _ _ (HR1.out.below HB1.out) (by omega) (by omega)).mono ?_
  rintro e w2 ⟨rfl, hb⟩
  have s2 : w1.heap.size ≤ w2.heap.size := hb.size
  have n2_0 : w.heap.size < w2.heap.size := by omega
  have n2_1 : w.heap.size + 1 < w2.heap.size := by omega
  replace x0_0 := cell_below hb x0_0 (by omega)
  replace x0_1 := cell_below hb x0_1 (by omega)
  replace x1_0 := cell_below hb x1_0 (by omega)
  replace x1_1 := cell_below hb x1_1 (by omega)
  have HB2 := Lib.hid (HB1.out.trans (hb.mono (by omega)))
  clear hb
  go_upto_region 8 with fail
  go_cut [6, 7] (fun s6 s7 wx => ∃ (B8 lo8 hi8 : Nat) (va : Option Addr) (vc : Nat), s6 = .pointer (some ⟨B8, 0, none⟩) ∧ s7 = .bool ok ∧ wx.cell? ⟨B8, 0, none⟩ = some (.int .i64 rt0) ∧ wx.cell? ⟨B8, 1, none⟩ = some (.slice va r0.length vc) ∧ OwnL lo8 hi8 wx (.slice va r0.length vc) r0 ∧ hi8 ≤ wx.heap.size ∧ B8 < wx.heap.size ∧ w2.heap.size ≤ B8 ∧ w2.heap.size ≤ lo8 ∧ Below w2.heap.size w2 wx)
  case first =>
    have HBs := Lib.hid (Below.refl w2.heap.size w2)
    go_wp2_with fail
    refine wp_region_noPanic ?_
    refine wp_region_held_drew (S := fun w' => w'.cell? ⟨w.heap.size, 0, none⟩ = some (.int .i64 t0) ∧ w'.cell? ⟨w.heap.size, 1, none⟩ = some (.slice a0 ls0.length c0) ∧ w'.cell? ⟨w.heap.size + 1, 0, none⟩ = some (.int .i64 t1) ∧ w'.cell? ⟨w.heap.size + 1, 1, none⟩ = some (.slice a1 ls1.length c1)) (by kernel_rfl) ?_ (fun hHeld => ?_)
    · exact ⟨x0_0, x0_1, x1_0, x1_1⟩
    have hb : Below w2.heap.size w2 w2.drew := (Below.refl _ _).drew
    generalize hwn : w2.drew = v51 at *
    clear hwn
    have sz51 : w2.heap.size ≤ v51.heap.size := hb.size
    replace x0_0 := cell_keep hb x0_0
    replace x0_1 := cell_keep hb x0_1
    replace x1_0 := cell_keep hb x1_0
    replace x1_1 := cell_keep hb x1_1
    have HBh51 := Lib.hid (HBs.out.trans (hb.mono (by have := HBs.out.size; omega)))
    clear hb
    refine wpAnyH_take (i := 0) (v := ?_) rfl (by kernel_rfl) (by kernel_rfl) (by kernel_rfl) (fun _ _ _ h => h) (Or.inl ⟨by rfl, ?_⟩) (by assumption) ?_
    rotate_left
    · intro w9 hSw; (try dsimp only at hSw); go_simp; try with_reducible rfl
    try simp only [List.getElem_toArray, List.getElem_cons_succ, List.getElem_cons_zero, Act.put, List.setIfInBounds_toArray, List.set_cons_zero, List.set_cons_succ]
    refine wpAnyH_take (i := 2) (v := ?_) rfl (by kernel_rfl) (by kernel_rfl) (by kernel_rfl) (fun _ _ _ h => h) (Or.inl ⟨by rfl, ?_⟩) (by assumption) ?_
    rotate_left
    · intro w9 hSw; (try dsimp only at hSw); go_simp; try with_reducible rfl
    try simp only [List.getElem_toArray, List.getElem_cons_succ, List.getElem_cons_zero, Act.put, List.setIfInBounds_toArray, List.set_cons_zero, List.set_cons_succ]
    refine wpAnyH_ready (rs := [1, 8]) (by kernel_rfl) (by simp) ?_
    refine AllReadyH.cons rfl (fun K hK => ?_) ?_
    · skip
      clear hHeld
      go_simp
      refine (netfns.to_any a0 ls0 c0 t0 _ (HR0.out.below (HB2.out.trans (HBh51.out.mono (by omega)))) (by omega)).mono ?_
      rintro e v52 ⟨v, rfl, ho, hb⟩
      obtain ⟨p0, q0, rfl, _, _, _⟩ := ho.slice
      have sz52 : v51.heap.size ≤ v52.heap.size := hb.size
      replace x0_0 := cell_keep hb x0_0
      replace x0_1 := cell_keep hb x0_1
      replace x1_0 := cell_keep hb x1_0
      replace x1_1 := cell_keep hb x1_1
      have HBh52 := Lib.hid (HBh51.out.trans (hb.mono (by have := HBh51.out.size; omega)))
      clear hb
      have O0 := Lib.hid ho
      clear ho
      refine hK.out _ _ ?_ (fun hHeld => ?_)
      · exact ⟨x0_0, x0_1, x1_0, x1_1⟩
      clear hK K
      try simp only [List.getElem_toArray, List.getElem_cons_succ, List.getElem_cons_zero, Act.put, List.setIfInBounds_toArray, List.set_cons_zero, List.set_cons_succ]
      refine wpAnyH_ready (rs := [3, 8]) (by kernel_rfl) (by simp) ?_
      refine AllReadyH.cons rfl (fun K hK => ?_) ?_
      · skip
        clear hHeld
        go_simp
        refine (netfns.to_any a1 ls1 c1 t1 _ (HR1.out.below (HB2.out.trans (HBh52.out.mono (by omega)))) (by omega)).mono ?_
        rintro e v53 ⟨v, rfl, ho, hb⟩
        obtain ⟨p1, q1, rfl, _, _, _⟩ := ho.slice
        have sz53 : v52.heap.size ≤ v53.heap.size := hb.size
        replace x0_0 := cell_keep hb x0_0
        replace x0_1 := cell_keep hb x0_1
        replace x1_0 := cell_keep hb x1_0
        replace x1_1 := cell_keep hb x1_1
        replace O0 := Lib.hid (O0.out.below hb)
        have HBh53 := Lib.hid (HBh52.out.trans (hb.mono (by have := HBh52.out.size; omega)))
        clear hb
        have O1 := Lib.hid ho
        clear ho
        refine hK.out _ _ ?_ (fun hHeld => ?_)
        · exact ⟨x0_0, x0_1, x1_0, x1_1⟩
        clear hK K
        try simp only [List.getElem_toArray, List.getElem_cons_succ, List.getElem_cons_zero, Act.put, List.setIfInBounds_toArray, List.set_cons_zero, List.set_cons_succ]
        refine wpAnyH_ready (rs := [4, 8]) (by kernel_rfl) (by simp) ?_
        refine AllReadyH.cons rfl (fun K hK => ?_) ?_
        · skip
          clear hHeld
          go_simp
          refine (HSpec.out _ _ _ _ _ O0.out.reads O1.out.reads).mono ?_
          rintro e v54 ⟨v, rfl, ho, hb⟩
          obtain ⟨va, vc, rfl, _, _, _⟩ := ho.slice
          have sz54 : v53.heap.size ≤ v54.heap.size := hb.size
          replace x0_0 := cell_keep hb x0_0
          replace x0_1 := cell_keep hb x0_1
          replace x1_0 := cell_keep hb x1_0
          replace x1_1 := cell_keep hb x1_1
          have HBh54 := Lib.hid (HBh53.out.trans (hb.mono (by have := HBh53.out.size; omega)))
          clear hb
          have OR8 := Lib.hid ho
          clear ho O0 O1
          refine hK.out _ _ ?_ (fun hHeld => ?_)
          · exact ⟨x0_0, x0_1, x1_0, x1_1⟩
          clear hK K
          try simp only [List.getElem_toArray, List.getElem_cons_succ, List.getElem_cons_zero, Act.put, List.setIfInBounds_toArray, List.set_cons_zero, List.set_cons_succ]
          refine wpAnyH_take (i := 5) (v := ?_) rfl (by kernel_rfl) (by kernel_rfl) (by kernel_rfl) (fun _ _ _ h => h) (Or.inl ⟨by rfl, ?_⟩) (by assumption) ?_
          rotate_left
          · intro w9 hSw; (try dsimp only at hSw); go_simp; try with_reducible rfl
          try simp only [List.getElem_toArray, List.getElem_cons_succ, List.getElem_cons_zero, Act.put, List.setIfInBounds_toArray, List.set_cons_zero, List.set_cons_succ]
          refine wpAnyH_take (i := 6) (v := ?_) rfl (by kernel_rfl) (by kernel_rfl) (by kernel_rfl) (fun _ _ _ h => h) (Or.inl ⟨by rfl, ?_⟩) (by assumption) ?_
          rotate_left
          · intro w9 hSw; (try dsimp only at hSw); go_simp; try with_reducible rfl
          try simp only [List.getElem_toArray, List.getElem_cons_succ, List.getElem_cons_zero, Act.put, List.setIfInBounds_toArray, List.set_cons_zero, List.set_cons_succ]
          refine wpAnyH_take (i := 7) (v := ?_) rfl (by kernel_rfl) (by kernel_rfl) (by kernel_rfl) (fun _ _ _ h => h) (Or.inl ⟨by rfl, ?_⟩) (by assumption) ?_
          rotate_left
          · intro w9 hSw; (try dsimp only at hSw); go_simp; try with_reducible rfl
          try simp only [List.getElem_toArray, List.getElem_cons_succ, List.getElem_cons_zero, Act.put, List.setIfInBounds_toArray, List.set_cons_zero, List.set_cons_succ]
          refine wpAnyH_ready (rs := [8]) (by kernel_rfl) (by simp) ?_
          refine AllReadyH.cons rfl (fun K hK => ?_) AllReadyH.nil
          clear hHeld
          go_simp
          have pv_0 : (v54.alloc (.cells #[.int .i64 0, .slice none 0 0] 44)).cell? ⟨v54.heap.size, 0, none⟩ = some (.int .i64 0) := cell_new _ _ _ rfl rfl
          have pv_f0 : (v54.alloc (.cells #[.int .i64 0, .slice none 0 0] 44)).frozen? ⟨v54.heap.size, 0, none⟩ = false := fro_new _ _ _ rfl
          have pv_1 : (v54.alloc (.cells #[.int .i64 0, .slice none 0 0] 44)).cell? ⟨v54.heap.size, 1, none⟩ = some (.slice none 0 0) := cell_new _ _ _ rfl rfl
          have pv_f1 : (v54.alloc (.cells #[.int .i64 0, .slice none 0 0] 44)).frozen? ⟨v54.heap.size, 1, none⟩ = false := fro_new _ _ _ rfl
          have hb := below_alloc v54 (.cells #[.int .i64 0, .slice none 0 0] 44)
          have lt_pv := size_alloc' v54 (.cells #[.int .i64 0, .slice none 0 0] 44)
          generalize hwn : v54.alloc (.cells #[.int .i64 0, .slice none 0 0] 44) = v55 at *
          clear hwn
          have sz55 : v54.heap.size ≤ v55.heap.size := hb.size
          replace x0_0 := cell_keep hb x0_0
          replace x0_1 := cell_keep hb x0_1
          replace x1_0 := cell_keep hb x1_0
          replace x1_1 := cell_keep hb x1_1
          replace OR8 := Lib.hid (OR8.out.below hb)
          have HBh55 := Lib.hid (HBh54.out.trans (hb.mono (by have := HBh54.out.size; omega)))
          clear hb
          obtain ⟨Bpv, hBpv⟩ : ∃ Bpv : Nat, Bpv = v54.heap.size := ⟨_, rfl⟩
          rw [← hBpv] at pv_0 pv_f0 pv_1 pv_f1 ⊢
          have hBlpv : Bpv ≤ v54.heap.size ∧ v54.heap.size ≤ Bpv := by omega
          clear hBpv
          refine hK.out _ _ ?_ (fun hHeld => ?_)
          · exact ⟨x0_0, x0_1, x1_0, x1_1⟩
          clear hK K
          try simp only [List.getElem_toArray, List.getElem_cons_succ, List.getElem_cons_zero, Act.put, List.setIfInBounds_toArray, List.set_cons_zero, List.set_cons_succ]
          refine wpAnyH_ready (rs := [9]) (by kernel_rfl) (by simp) ?_
          refine AllReadyH.cons rfl (fun K hK => ?_) AllReadyH.nil
          clear hHeld
          go_simp
          have hg : v55.grownBy ((v55.setCell ⟨Bpv, 0, none⟩ (.int .i64 rt0)).setCell ⟨Bpv, 1, none⟩ (.slice va r0.length vc)) (some (Bpv)) := grown_trans (grown_set v55 (Bpv) 0 (.int .i64 rt0)) (grown_set _ (Bpv) 1 (.slice va r0.length vc))
          have nx0 : ((v55.setCell ⟨Bpv, 0, none⟩ (.int .i64 rt0)).setCell ⟨Bpv, 1, none⟩ (.slice va r0.length vc)).cell? ⟨Bpv, 0, none⟩ = some (.int .i64 rt0) := (World.cell?_setCell_other _ _ _ _ (by simp)).trans (World.cell?_setCell_same _ _ _ pv_0)
          have nf0 : ((v55.setCell ⟨Bpv, 0, none⟩ (.int .i64 rt0)).setCell ⟨Bpv, 1, none⟩ (.slice va r0.length vc)).frozen? ⟨Bpv, 0, none⟩ = false := by simp only [World.frozen?_setCell]; exact pv_f0
          have nx1 : ((v55.setCell ⟨Bpv, 0, none⟩ (.int .i64 rt0)).setCell ⟨Bpv, 1, none⟩ (.slice va r0.length vc)).cell? ⟨Bpv, 1, none⟩ = some (.slice va r0.length vc) := World.cell?_setCell_same _ _ _ ((World.cell?_setCell_other _ _ _ _ (by simp)).trans pv_1)
          have nf1 : ((v55.setCell ⟨Bpv, 0, none⟩ (.int .i64 rt0)).setCell ⟨Bpv, 1, none⟩ (.slice va r0.length vc)).frozen? ⟨Bpv, 1, none⟩ = false := by simp only [World.frozen?_setCell]; exact pv_f1
          clear pv_0 pv_f0 pv_1 pv_f1
          generalize hwn : ((v55.setCell ⟨Bpv, 0, none⟩ (.int .i64 rt0)).setCell ⟨Bpv, 1, none⟩ (.slice va r0.length vc)) = v56 at *
          clear hwn
          have sz56 : v55.heap.size ≤ v56.heap.size := hg.size
          replace x0_0 := cell_grow hg x0_0 (fun g e => by (have e2 : Bpv = g := by simpa using e); omega)
          replace x0_1 := cell_grow hg x0_1 (fun g e => by (have e2 : Bpv = g := by simpa using e); omega)
          replace x1_0 := cell_grow hg x1_0 (fun g e => by (have e2 : Bpv = g := by simpa using e); omega)
          replace x1_1 := cell_grow hg x1_1 (fun g e => by (have e2 : Bpv = g := by simpa using e); omega)
          replace OR8 := Lib.hid (own_grow hg OR8.out (fun g e => by (have e2 : Bpv = g := by simpa using e); omega))
          have HBh56 := Lib.hid (HBh55.out.grown hg (by have := HBh55.out.size; omega) (fun g e => by (have e2 : Bpv = g := by simpa using e); omega))
          have pv_0 := nx0
          have pv_f0 := nf0
          have pv_1 := nx1
          have pv_f1 := nf1
          clear hg nx0 nf0 nx1 nf1
          refine hK.out _ _ ?_ (fun hHeld => ?_)
          · exact ⟨x0_0, x0_1, x1_0, x1_1⟩
          clear hK K
          try simp only [List.getElem_toArray, List.getElem_cons_succ, List.getElem_cons_zero, Act.put, List.setIfInBounds_toArray, List.set_cons_zero, List.set_cons_succ]
          refine wpAnyH_take (i := 10) (v := ?_) rfl (by kernel_rfl) (by kernel_rfl) (by kernel_rfl) (fun _ _ _ h => h) (Or.inl ⟨by rfl, ?_⟩) (by assumption) ?_
          rotate_left
          · intro w9 hSw; (try dsimp only at hSw); go_simp; try with_reducible rfl
          try simp only [List.getElem_toArray, List.getElem_cons_succ, List.getElem_cons_zero, Act.put, List.setIfInBounds_toArray, List.set_cons_zero, List.set_cons_succ]
          refine wpAnyH_done (by kernel_rfl) ?_ _
          refine NoPanic.normal ?_
          clear hHeld
          go_wp2_with fail
          go_meet
          exact ⟨Bpv, v53.heap.size, v54.heap.size, va, vc, rfl, rfl, pv_0, pv_1, OR8.out, by omega, by omega, by omega, by omega, HBh56.out⟩
        refine AllReadyH.cons rfl (fun K hK => ?_) AllReadyH.nil
        clear hHeld
        go_simp
        have pv_0 : (v53.alloc (.cells #[.int .i64 0, .slice none 0 0] 44)).cell? ⟨v53.heap.size, 0, none⟩ = some (.int .i64 0) := cell_new _ _ _ rfl rfl
        have pv_f0 : (v53.alloc (.cells #[.int .i64 0, .slice none 0 0] 44)).frozen? ⟨v53.heap.size, 0, none⟩ = false := fro_new _ _ _ rfl
        have pv_1 : (v53.alloc (.cells #[.int .i64 0, .slice none 0 0] 44)).cell? ⟨v53.heap.size, 1, none⟩ = some (.slice none 0 0) := cell_new _ _ _ rfl rfl
        have pv_f1 : (v53.alloc (.cells #[.int .i64 0, .slice none 0 0] 44)).frozen? ⟨v53.heap.size, 1, none⟩ = false := fro_new _ _ _ rfl
        have hb := below_alloc v53 (.cells #[.int .i64 0, .slice none 0 0] 44)
        have lt_pv := size_alloc' v53 (.cells #[.int .i64 0, .slice none 0 0] 44)
        generalize hwn : v53.alloc (.cells #[.int .i64 0, .slice none 0 0] 44) = v54 at *
        clear hwn
        have sz54 : v53.heap.size ≤ v54.heap.size := hb.size
        replace x0_0 := cell_keep hb x0_0
        replace x0_1 := cell_keep hb x0_1
        replace x1_0 := cell_keep hb x1_0
        replace x1_1 := cell_keep hb x1_1
        replace O0 := Lib.hid (O0.out.below hb)
        replace O1 := Lib.hid (O1.out.below hb)
        have HBh54 := Lib.hid (HBh53.out.trans (hb.mono (by have := HBh53.out.size; omega)))
        clear hb
        obtain ⟨Bpv, hBpv⟩ : ∃ Bpv : Nat, Bpv = v53.heap.size := ⟨_, rfl⟩
        rw [← hBpv] at pv_0 pv_f0 pv_1 pv_f1 ⊢
        have hBlpv : Bpv ≤ v53.heap.size ∧ v53.heap.size ≤ Bpv := by omega
        clear hBpv
        refine hK.out _ _ ?_ (fun hHeld => ?_)
        · exact ⟨x0_0, x0_1, x1_0, x1_1⟩
        clear hK K
        try simp only [List.getElem_toArray, List.getElem_cons_succ, List.getElem_cons_zero, Act.put, List.setIfInBounds_toArray, List.set_cons_zero, List.set_cons_succ]
        refine wpAnyH_ready (rs := [4]) (by kernel_rfl) (by simp) ?_
        refine AllReadyH.cons rfl (fun K hK => ?_) AllReadyH.nil
        clear hHeld
        go_simp
        refine (HSpec.out _ _ _ _ _ O0.out.reads O1.out.reads).mono ?_
        rintro e v55 ⟨v, rfl, ho, hb⟩
        obtain ⟨va, vc, rfl, _, _, _⟩ := ho.slice
        have sz55 : v54.heap.size ≤ v55.heap.size := hb.size
        replace pv_f0 := fro_keep hb pv_0 pv_f0
        replace pv_f1 := fro_keep hb pv_1 pv_f1
        replace x0_0 := cell_keep hb x0_0
        replace x0_1 := cell_keep hb x0_1
        replace x1_0 := cell_keep hb x1_0
        replace x1_1 := cell_keep hb x1_1
        replace pv_0 := cell_keep hb pv_0
        replace pv_1 := cell_keep hb pv_1
        have HBh55 := Lib.hid (HBh54.out.trans (hb.mono (by have := HBh54.out.size; omega)))
        clear hb
        have OR8 := Lib.hid ho
        clear ho O0 O1
        refine hK.out _ _ ?_ (fun hHeld => ?_)
        · exact ⟨x0_0, x0_1, x1_0, x1_1⟩
        clear hK K
        try simp only [List.getElem_toArray, List.getElem_cons_succ, List.getElem_cons_zero, Act.put, List.setIfInBounds_toArray, List.set_cons_zero, List.set_cons_succ]
        refine wpAnyH_take (i := 5) (v := ?_) rfl (by kernel_rfl) (by kernel_rfl) (by kernel_rfl) (fun _ _ _ h => h) (Or.inl ⟨by rfl, ?_⟩) (by assumption) ?_
        rotate_left
        · intro w9 hSw; (try dsimp only at hSw); go_simp; try with_reducible rfl
        try simp only [List.getElem_toArray, List.getElem_cons_succ, List.getElem_cons_zero, Act.put, List.setIfInBounds_toArray, List.set_cons_zero, List.set_cons_succ]
        refine wpAnyH_take (i := 6) (v := ?_) rfl (by kernel_rfl) (by kernel_rfl) (by kernel_rfl) (fun _ _ _ h => h) (Or.inl ⟨by rfl, ?_⟩) (by assumption) ?_
        rotate_left
        · intro w9 hSw; (try dsimp only at hSw); go_simp; try with_reducible rfl
        try simp only [List.getElem_toArray, List.getElem_cons_succ, List.getElem_cons_zero, Act.put, List.setIfInBounds_toArray, List.set_cons_zero, List.set_cons_succ]
        refine wpAnyH_take (i := 7) (v := ?_) rfl (by kernel_rfl) (by kernel_rfl) (by kernel_rfl) (fun _ _ _ h => h) (Or.inl ⟨by rfl, ?_⟩) (by assumption) ?_
        rotate_left
        · intro w9 hSw; (try dsimp only at hSw); go_simp; try with_reducible rfl
        try simp only [List.getElem_toArray, List.getElem_cons_succ, List.getElem_cons_zero, Act.put, List.setIfInBounds_toArray, List.set_cons_zero, List.set_cons_succ]
        refine wpAnyH_ready (rs := [9]) (by kernel_rfl) (by simp) ?_
        refine AllReadyH.cons rfl (fun K hK => ?_) AllReadyH.nil
        clear hHeld
        go_simp
        have hg : v55.grownBy ((v55.setCell ⟨Bpv, 0, none⟩ (.int .i64 rt0)).setCell ⟨Bpv, 1, none⟩ (.slice va r0.length vc)) (some (Bpv)) := grown_trans (grown_set v55 (Bpv) 0 (.int .i64 rt0)) (grown_set _ (Bpv) 1 (.slice va r0.length vc))
        have nx0 : ((v55.setCell ⟨Bpv, 0, none⟩ (.int .i64 rt0)).setCell ⟨Bpv, 1, none⟩ (.slice va r0.length vc)).cell? ⟨Bpv, 0, none⟩ = some (.int .i64 rt0) := (World.cell?_setCell_other _ _ _ _ (by simp)).trans (World.cell?_setCell_same _ _ _ pv_0)
        have nf0 : ((v55.setCell ⟨Bpv, 0, none⟩ (.int .i64 rt0)).setCell ⟨Bpv, 1, none⟩ (.slice va r0.length vc)).frozen? ⟨Bpv, 0, none⟩ = false := by simp only [World.frozen?_setCell]; exact pv_f0
        have nx1 : ((v55.setCell ⟨Bpv, 0, none⟩ (.int .i64 rt0)).setCell ⟨Bpv, 1, none⟩ (.slice va r0.length vc)).cell? ⟨Bpv, 1, none⟩ = some (.slice va r0.length vc) := World.cell?_setCell_same _ _ _ ((World.cell?_setCell_other _ _ _ _ (by simp)).trans pv_1)
        have nf1 : ((v55.setCell ⟨Bpv, 0, none⟩ (.int .i64 rt0)).setCell ⟨Bpv, 1, none⟩ (.slice va r0.length vc)).frozen? ⟨Bpv, 1, none⟩ = false := by simp only [World.frozen?_setCell]; exact pv_f1
        clear pv_0 pv_f0 pv_1 pv_f1
        generalize hwn : ((v55.setCell ⟨Bpv, 0, none⟩ (.int .i64 rt0)).setCell ⟨Bpv, 1, none⟩ (.slice va r0.length vc)) = v56 at *
        clear hwn
        have sz56 : v55.heap.size ≤ v56.heap.size := hg.size
        replace x0_0 := cell_grow hg x0_0 (fun g e => by (have e2 : Bpv = g := by simpa using e); omega)
        replace x0_1 := cell_grow hg x0_1 (fun g e => by (have e2 : Bpv = g := by simpa using e); omega)
        replace x1_0 := cell_grow hg x1_0 (fun g e => by (have e2 : Bpv = g := by simpa using e); omega)
        replace x1_1 := cell_grow hg x1_1 (fun g e => by (have e2 : Bpv = g := by simpa using e); omega)
        replace OR8 := Lib.hid (own_grow hg OR8.out (fun g e => by (have e2 : Bpv = g := by simpa using e); omega))
        have HBh56 := Lib.hid (HBh55.out.grown hg (by have := HBh55.out.size; omega) (fun g e => by (have e2 : Bpv = g := by simpa using e); omega))
        have pv_0 := nx0
        have pv_f0 := nf0
        have pv_1 := nx1
        have pv_f1 := nf1
        clear hg nx0 nf0 nx1 nf1
        refine hK.out _ _ ?_ (fun hHeld => ?_)
        · exact ⟨x0_0, x0_1, x1_0, x1_1⟩
        clear hK K
        try simp only [List.getElem_toArray, List.getElem_cons_succ, List.getElem_cons_zero, Act.put, List.setIfInBounds_toArray, List.set_cons_zero, List.set_cons_succ]
        refine wpAnyH_take (i := 10) (v := ?_) rfl (by kernel_rfl) (by kernel_rfl) (by kernel_rfl) (fun _ _ _ h => h) (Or.inl ⟨by rfl, ?_⟩) (by assumption) ?_
        rotate_left
        · intro w9 hSw; (try dsimp only at hSw); go_simp; try with_reducible rfl
        try simp only [List.getElem_toArray, List.getElem_cons_succ, List.getElem_cons_zero, Act.put, List.setIfInBounds_toArray, List.set_cons_zero, List.set_cons_succ]
        refine wpAnyH_done (by kernel_rfl) ?_ _
        refine NoPanic.normal ?_
        clear hHeld
        go_wp2_with fail
        go_meet
        exact ⟨Bpv, v54.heap.size, v55.heap.size, va, vc, rfl, rfl, pv_0, pv_1, OR8.out, by omega, by omega, by omega, by omega, HBh56.out⟩
      refine AllReadyH.cons rfl (fun K hK => ?_) AllReadyH.nil
      clear hHeld
      go_simp
      have pv_0 : (v52.alloc (.cells #[.int .i64 0, .slice none 0 0] 44)).cell? ⟨v52.heap.size, 0, none⟩ = some (.int .i64 0) := cell_new _ _ _ rfl rfl
      have pv_f0 : (v52.alloc (.cells #[.int .i64 0, .slice none 0 0] 44)).frozen? ⟨v52.heap.size, 0, none⟩ = false := fro_new _ _ _ rfl
      have pv_1 : (v52.alloc (.cells #[.int .i64 0, .slice none 0 0] 44)).cell? ⟨v52.heap.size, 1, none⟩ = some (.slice none 0 0) := cell_new _ _ _ rfl rfl
      have pv_f1 : (v52.alloc (.cells #[.int .i64 0, .slice none 0 0] 44)).frozen? ⟨v52.heap.size, 1, none⟩ = false := fro_new _ _ _ rfl
      have hb := below_alloc v52 (.cells #[.int .i64 0, .slice none 0 0] 44)
      have lt_pv := size_alloc' v52 (.cells #[.int .i64 0, .slice none 0 0] 44)
      generalize hwn : v52.alloc (.cells #[.int .i64 0, .slice none 0 0] 44) = v53 at *
      clear hwn
      have sz53 : v52.heap.size ≤ v53.heap.size := hb.size
      replace x0_0 := cell_keep hb x0_0
      replace x0_1 := cell_keep hb x0_1
      replace x1_0 := cell_keep hb x1_0
      replace x1_1 := cell_keep hb x1_1
      replace O0 := Lib.hid (O0.out.below hb)
      have HBh53 := Lib.hid (HBh52.out.trans (hb.mono (by have := HBh52.out.size; omega)))
      clear hb
      obtain ⟨Bpv, hBpv⟩ : ∃ Bpv : Nat, Bpv = v52.heap.size := ⟨_, rfl⟩
      rw [← hBpv] at pv_0 pv_f0 pv_1 pv_f1 ⊢
      have hBlpv : Bpv ≤ v52.heap.size ∧ v52.heap.size ≤ Bpv := by omega
      clear hBpv
      refine hK.out _ _ ?_ (fun hHeld => ?_)
      · exact ⟨x0_0, x0_1, x1_0, x1_1⟩
      clear hK K
      try simp only [List.getElem_toArray, List.getElem_cons_succ, List.getElem_cons_zero, Act.put, List.setIfInBounds_toArray, List.set_cons_zero, List.set_cons_succ]
      refine wpAnyH_ready (rs := [3]) (by kernel_rfl) (by simp) ?_
      refine AllReadyH.cons rfl (fun K hK => ?_) AllReadyH.nil
      clear hHeld
      go_simp
      refine (netfns.to_any a1 ls1 c1 t1 _ (HR1.out.below (HB2.out.trans (HBh53.out.mono (by omega)))) (by omega)).mono ?_
      rintro e v54 ⟨v, rfl, ho, hb⟩
      obtain ⟨p1, q1, rfl, _, _, _⟩ := ho.slice
      have sz54 : v53.heap.size ≤ v54.heap.size := hb.size
      replace pv_f0 := fro_keep hb pv_0 pv_f0
      replace pv_f1 := fro_keep hb pv_1 pv_f1
      replace x0_0 := cell_keep hb x0_0
      replace x0_1 := cell_keep hb x0_1
      replace x1_0 := cell_keep hb x1_0
      replace x1_1 := cell_keep hb x1_1
      replace pv_0 := cell_keep hb pv_0
      replace pv_1 := cell_keep hb pv_1
      replace O0 := Lib.hid (O0.out.below hb)
      have HBh54 := Lib.hid (HBh53.out.trans (hb.mono (by have := HBh53.out.size; omega)))
      clear hb
      have O1 := Lib.hid ho
      clear ho
      refine hK.out _ _ ?_ (fun hHeld => ?_)
      · exact ⟨x0_0, x0_1, x1_0, x1_1⟩
      clear hK K
      try simp only [List.getElem_toArray, List.getElem_cons_succ, List.getElem_cons_zero, Act.put, List.setIfInBounds_toArray, List.set_cons_zero, List.set_cons_succ]
      refine wpAnyH_ready (rs := [4]) (by kernel_rfl) (by simp) ?_
      refine AllReadyH.cons rfl (fun K hK => ?_) AllReadyH.nil
      clear hHeld
      go_simp
      refine (HSpec.out _ _ _ _ _ O0.out.reads O1.out.reads).mono ?_
      rintro e v55 ⟨v, rfl, ho, hb⟩
      obtain ⟨va, vc, rfl, _, _, _⟩ := ho.slice
      have sz55 : v54.heap.size ≤ v55.heap.size := hb.size
      replace pv_f0 := fro_keep hb pv_0 pv_f0
      replace pv_f1 := fro_keep hb pv_1 pv_f1
      replace x0_0 := cell_keep hb x0_0
      replace x0_1 := cell_keep hb x0_1
      replace x1_0 := cell_keep hb x1_0
      replace x1_1 := cell_keep hb x1_1
      replace pv_0 := cell_keep hb pv_0
      replace pv_1 := cell_keep hb pv_1
      have HBh55 := Lib.hid (HBh54.out.trans (hb.mono (by have := HBh54.out.size; omega)))
      clear hb
      have OR8 := Lib.hid ho
      clear ho O0 O1
      refine hK.out _ _ ?_ (fun hHeld => ?_)
      · exact ⟨x0_0, x0_1, x1_0, x1_1⟩
      clear hK K
      try simp only [List.getElem_toArray, List.getElem_cons_succ, List.getElem_cons_zero, Act.put, List.setIfInBounds_toArray, List.set_cons_zero, List.set_cons_succ]
      refine wpAnyH_take (i := 5) (v := ?_) rfl (by kernel_rfl) (by kernel_rfl) (by kernel_rfl) (fun _ _ _ h => h) (Or.inl ⟨by rfl, ?_⟩) (by assumption) ?_
      rotate_left
      · intro w9 hSw; (try dsimp only at hSw); go_simp; try with_reducible rfl
      try simp only [List.getElem_toArray, List.getElem_cons_succ, List.getElem_cons_zero, Act.put, List.setIfInBounds_toArray, List.set_cons_zero, List.set_cons_succ]
      refine wpAnyH_take (i := 6) (v := ?_) rfl (by kernel_rfl) (by kernel_rfl) (by kernel_rfl) (fun _ _ _ h => h) (Or.inl ⟨by rfl, ?_⟩) (by assumption) ?_
      rotate_left
      · intro w9 hSw; (try dsimp only at hSw); go_simp; try with_reducible rfl
      try simp only [List.getElem_toArray, List.getElem_cons_succ, List.getElem_cons_zero, Act.put, List.setIfInBounds_toArray, List.set_cons_zero, List.set_cons_succ]
      refine wpAnyH_take (i := 7) (v := ?_) rfl (by kernel_rfl) (by kernel_rfl) (by kernel_rfl) (fun _ _ _ h => h) (Or.inl ⟨by rfl, ?_⟩) (by assumption) ?_
      rotate_left
      · intro w9 hSw; (try dsimp only at hSw); go_simp; try with_reducible rfl
      try simp only [List.getElem_toArray, List.getElem_cons_succ, List.getElem_cons_zero, Act.put, List.setIfInBounds_toArray, List.set_cons_zero, List.set_cons_succ]
      refine wpAnyH_ready (rs := [9]) (by kernel_rfl) (by simp) ?_
      refine AllReadyH.cons rfl (fun K hK => ?_) AllReadyH.nil
      clear hHeld
      go_simp
      have hg : v55.grownBy ((v55.setCell ⟨Bpv, 0, none⟩ (.int .i64 rt0)).setCell ⟨Bpv, 1, none⟩ (.slice va r0.length vc)) (some (Bpv)) := grown_trans (grown_set v55 (Bpv) 0 (.int .i64 rt0)) (grown_set _ (Bpv) 1 (.slice va r0.length vc))
      have nx0 : ((v55.setCell ⟨Bpv, 0, none⟩ (.int .i64 rt0)).setCell ⟨Bpv, 1, none⟩ (.slice va r0.length vc)).cell? ⟨Bpv, 0, none⟩ = some (.int .i64 rt0) := (World.cell?_setCell_other _ _ _ _ (by simp)).trans (World.cell?_setCell_same _ _ _ pv_0)
      have nf0 : ((v55.setCell ⟨Bpv, 0, none⟩ (.int .i64 rt0)).setCell ⟨Bpv, 1, none⟩ (.slice va r0.length vc)).frozen? ⟨Bpv, 0, none⟩ = false := by simp only [World.frozen?_setCell]; exact pv_f0
      have nx1 : ((v55.setCell ⟨Bpv, 0, none⟩ (.int .i64 rt0)).setCell ⟨Bpv, 1, none⟩ (.slice va r0.length vc)).cell? ⟨Bpv, 1, none⟩ = some (.slice va r0.length vc) := World.cell?_setCell_same _ _ _ ((World.cell?_setCell_other _ _ _ _ (by simp)).trans pv_1)
      have nf1 : ((v55.setCell ⟨Bpv, 0, none⟩ (.int .i64 rt0)).setCell ⟨Bpv, 1, none⟩ (.slice va r0.length vc)).frozen? ⟨Bpv, 1, none⟩ = false := by simp only [World.frozen?_setCell]; exact pv_f1
      clear pv_0 pv_f0 pv_1 pv_f1
      generalize hwn : ((v55.setCell ⟨Bpv, 0, none⟩ (.int .i64 rt0)).setCell ⟨Bpv, 1, none⟩ (.slice va r0.length vc)) = v56 at *
      clear hwn
      have sz56 : v55.heap.size ≤ v56.heap.size := hg.size
      replace x0_0 := cell_grow hg x0_0 (fun g e => by (have e2 : Bpv = g := by simpa using e); omega)
      replace x0_1 := cell_grow hg x0_1 (fun g e => by (have e2 : Bpv = g := by simpa using e); omega)
      replace x1_0 := cell_grow hg x1_0 (fun g e => by (have e2 : Bpv = g := by simpa using e); omega)
      replace x1_1 := cell_grow hg x1_1 (fun g e => by (have e2 : Bpv = g := by simpa using e); omega)
      replace OR8 := Lib.hid (own_grow hg OR8.out (fun g e => by (have e2 : Bpv = g := by simpa using e); omega))
      have HBh56 := Lib.hid (HBh55.out.grown hg (by have := HBh55.out.size; omega) (fun g e => by (have e2 : Bpv = g := by simpa using e); omega))
      have pv_0 := nx0
      have pv_f0 := nf0
      have pv_1 := nx1
      have pv_f1 := nf1
      clear hg nx0 nf0 nx1 nf1
      refine hK.out _ _ ?_ (fun hHeld => ?_)
      · exact ⟨x0_0, x0_1, x1_0, x1_1⟩
      clear hK K
      try simp only [List.getElem_toArray, List.getElem_cons_succ, List.getElem_cons_zero, Act.put, List.setIfInBounds_toArray, List.set_cons_zero, List.set_cons_succ]
      refine wpAnyH_take (i := 10) (v := ?_) rfl (by kernel_rfl) (by kernel_rfl) (by kernel_rfl) (fun _ _ _ h => h) (Or.inl ⟨by rfl, ?_⟩) (by assumption) ?_
      rotate_left
      · intro w9 hSw; (try dsimp only at hSw); go_simp; try with_reducible rfl
      try simp only [List.getElem_toArray, List.getElem_cons_succ, List.getElem_cons_zero, Act.put, List.setIfInBounds_toArray, List.set_cons_zero, List.set_cons_succ]
      refine wpAnyH_done (by kernel_rfl) ?_ _
      refine NoPanic.normal ?_
      clear hHeld
      go_wp2_with fail
      go_meet
      exact ⟨Bpv, v54.heap.size, v55.heap.size, va, vc, rfl, rfl, pv_0, pv_1, OR8.out, by omega, by omega, by omega, by omega, HBh56.out⟩
    refine AllReadyH.cons rfl (fun K hK => ?_) AllReadyH.nil
    clear hHeld
    go_simp
    have pv_0 : (v51.alloc (.cells #[.int .i64 0, .slice none 0 0] 44)).cell? ⟨v51.heap.size, 0, none⟩ = some (.int .i64 0) := cell_new _ _ _ rfl rfl
    have pv_f0 : (v51.alloc (.cells #[.int .i64 0, .slice none 0 0] 44)).frozen? ⟨v51.heap.size, 0, none⟩ = false := fro_new _ _ _ rfl
    have pv_1 : (v51.alloc (.cells #[.int .i64 0, .slice none 0 0] 44)).cell? ⟨v51.heap.size, 1, none⟩ = some (.slice none 0 0) := cell_new _ _ _ rfl rfl
    have pv_f1 : (v51.alloc (.cells #[.int .i64 0, .slice none 0 0] 44)).frozen? ⟨v51.heap.size, 1, none⟩ = false := fro_new _ _ _ rfl
    have hb := below_alloc v51 (.cells #[.int .i64 0, .slice none 0 0] 44)
    have lt_pv := size_alloc' v51 (.cells #[.int .i64 0, .slice none 0 0] 44)
    generalize hwn : v51.alloc (.cells #[.int .i64 0, .slice none 0 0] 44) = v52 at *
    clear hwn
    have sz52 : v51.heap.size ≤ v52.heap.size := hb.size
    replace x0_0 := cell_keep hb x0_0
    replace x0_1 := cell_keep hb x0_1
    replace x1_0 := cell_keep hb x1_0
    replace x1_1 := cell_keep hb x1_1
    have HBh52 := Lib.hid (HBh51.out.trans (hb.mono (by have := HBh51.out.size; omega)))
    clear hb
    obtain ⟨Bpv, hBpv⟩ : ∃ Bpv : Nat, Bpv = v51.heap.size := ⟨_, rfl⟩
    rw [← hBpv] at pv_0 pv_f0 pv_1 pv_f1 ⊢
    have hBlpv : Bpv ≤ v51.heap.size ∧ v51.heap.size ≤ Bpv := by omega
    clear hBpv
    refine hK.out _ _ ?_ (fun hHeld => ?_)
    · exact ⟨x0_0, x0_1, x1_0, x1_1⟩
    clear hK K
    try simp only [List.getElem_toArray, List.getElem_cons_succ, List.getElem_cons_zero, Act.put, List.setIfInBounds_toArray, List.set_cons_zero, List.set_cons_succ]
    refine wpAnyH_ready (rs := [1]) (by kernel_rfl) (by simp) ?_
    refine AllReadyH.cons rfl (fun K hK => ?_) AllReadyH.nil
    clear hHeld
    go_simp
    refine (netfns.to_any a0 ls0 c0 t0 _ (HR0.out.below (HB2.out.trans (HBh52.out.mono (by omega)))) (by omega)).mono ?_
    rintro e v53 ⟨v, rfl, ho, hb⟩
    obtain ⟨p0, q0, rfl, _, _, _⟩ := ho.slice
    have sz53 : v52.heap.size ≤ v53.heap.size := hb.size
    replace pv_f0 := fro_keep hb pv_0 pv_f0
    replace pv_f1 := fro_keep hb pv_1 pv_f1
    replace x0_0 := cell_keep hb x0_0
    replace x0_1 := cell_keep hb x0_1
    replace x1_0 := cell_keep hb x1_0
    replace x1_1 := cell_keep hb x1_1
    replace pv_0 := cell_keep hb pv_0
    replace pv_1 := cell_keep hb pv_1
    have HBh53 := Lib.hid (HBh52.out.trans (hb.mono (by have := HBh52.out.size; omega)))
    clear hb
    have O0 := Lib.hid ho
    clear ho
    refine hK.out _ _ ?_ (fun hHeld => ?_)
    · exact ⟨x0_0, x0_1, x1_0, x1_1⟩
    clear hK K
    try simp only [List.getElem_toArray, List.getElem_cons_succ, List.getElem_cons_zero, Act.put, List.setIfInBounds_toArray, List.set_cons_zero, List.set_cons_succ]
    refine wpAnyH_ready (rs := [3]) (by kernel_rfl) (by simp) ?_
    refine AllReadyH.cons rfl (fun K hK => ?_) AllReadyH.nil
    clear hHeld
    go_simp
    refine (netfns.to_any a1 ls1 c1 t1 _ (HR1.out.below (HB2.out.trans (HBh53.out.mono (by omega)))) (by omega)).mono ?_
    rintro e v54 ⟨v, rfl, ho, hb⟩
    obtain ⟨p1, q1, rfl, _, _, _⟩ := ho.slice
    have sz54 : v53.heap.size ≤ v54.heap.size := hb.size
    replace pv_f0 := fro_keep hb pv_0 pv_f0
    replace pv_f1 := fro_keep hb pv_1 pv_f1
    replace x0_0 := cell_keep hb x0_0
    replace x0_1 := cell_keep hb x0_1
    replace x1_0 := cell_keep hb x1_0
    replace x1_1 := cell_keep hb x1_1
    replace pv_0 := cell_keep hb pv_0
    replace pv_1 := cell_keep hb pv_1
    replace O0 := Lib.hid (O0.out.below hb)
    have HBh54 := Lib.hid (HBh53.out.trans (hb.mono (by have := HBh53.out.size; omega)))
    clear hb
    have O1 := Lib.hid ho
    clear ho
    refine hK.out _ _ ?_ (fun hHeld => ?_)
    · exact ⟨x0_0, x0_1, x1_0, x1_1⟩
    clear hK K
    try simp only [List.getElem_toArray, List.getElem_cons_succ, List.getElem_cons_zero, Act.put, List.setIfInBounds_toArray, List.set_cons_zero, List.set_cons_succ]
    refine wpAnyH_ready (rs := [4]) (by kernel_rfl) (by simp) ?_
    refine AllReadyH.cons rfl (fun K hK => ?_) AllReadyH.nil
    clear hHeld
    go_simp
    refine (HSpec.out _ _ _ _ _ O0.out.reads O1.out.reads).mono ?_
    rintro e v55 ⟨v, rfl, ho, hb⟩
    obtain ⟨va, vc, rfl, _, _, _⟩ := ho.slice
    have sz55 : v54.heap.size ≤ v55.heap.size := hb.size
    replace pv_f0 := fro_keep hb pv_0 pv_f0
    replace pv_f1 := fro_keep hb pv_1 pv_f1
    replace x0_0 := cell_keep hb x0_0
    replace x0_1 := cell_keep hb x0_1
    replace x1_0 := cell_keep hb x1_0
    replace x1_1 := cell_keep hb x1_1
    replace pv_0 := cell_keep hb pv_0
    replace pv_1 := cell_keep hb pv_1
    have HBh55 := Lib.hid (HBh54.out.trans (hb.mono (by have := HBh54.out.size; omega)))
    clear hb
    have OR8 := Lib.hid ho
    clear ho O0 O1
    refine hK.out _ _ ?_ (fun hHeld => ?_)
    · exact ⟨x0_0, x0_1, x1_0, x1_1⟩
    clear hK K
    try simp only [List.getElem_toArray, List.getElem_cons_succ, List.getElem_cons_zero, Act.put, List.setIfInBounds_toArray, List.set_cons_zero, List.set_cons_succ]
    refine wpAnyH_take (i := 5) (v := ?_) rfl (by kernel_rfl) (by kernel_rfl) (by kernel_rfl) (fun _ _ _ h => h) (Or.inl ⟨by rfl, ?_⟩) (by assumption) ?_
    rotate_left
    · intro w9 hSw; (try dsimp only at hSw); go_simp; try with_reducible rfl
    try simp only [List.getElem_toArray, List.getElem_cons_succ, List.getElem_cons_zero, Act.put, List.setIfInBounds_toArray, List.set_cons_zero, List.set_cons_succ]
    refine wpAnyH_take (i := 6) (v := ?_) rfl (by kernel_rfl) (by kernel_rfl) (by kernel_rfl) (fun _ _ _ h => h) (Or.inl ⟨by rfl, ?_⟩) (by assumption) ?_
    rotate_left
    · intro w9 hSw; (try dsimp only at hSw); go_simp; try with_reducible rfl
    try simp only [List.getElem_toArray, List.getElem_cons_succ, List.getElem_cons_zero, Act.put, List.setIfInBounds_toArray, List.set_cons_zero, List.set_cons_succ]
    refine wpAnyH_take (i := 7) (v := ?_) rfl (by kernel_rfl) (by kernel_rfl) (by kernel_rfl) (fun _ _ _ h => h) (Or.inl ⟨by rfl, ?_⟩) (by assumption) ?_
    rotate_left
    · intro w9 hSw; (try dsimp only at hSw); go_simp; try with_reducible rfl
    try simp only [List.getElem_toArray, List.getElem_cons_succ, List.getElem_cons_zero, Act.put, List.setIfInBounds_toArray, List.set_cons_zero, List.set_cons_succ]
    refine wpAnyH_ready (rs := [9]) (by kernel_rfl) (by simp) ?_
    refine AllReadyH.cons rfl (fun K hK => ?_) AllReadyH.nil
    clear hHeld
    go_simp
    have hg : v55.grownBy ((v55.setCell ⟨Bpv, 0, none⟩ (.int .i64 rt0)).setCell ⟨Bpv, 1, none⟩ (.slice va r0.length vc)) (some (Bpv)) := grown_trans (grown_set v55 (Bpv) 0 (.int .i64 rt0)) (grown_set _ (Bpv) 1 (.slice va r0.length vc))
    have nx0 : ((v55.setCell ⟨Bpv, 0, none⟩ (.int .i64 rt0)).setCell ⟨Bpv, 1, none⟩ (.slice va r0.length vc)).cell? ⟨Bpv, 0, none⟩ = some (.int .i64 rt0) := (World.cell?_setCell_other _ _ _ _ (by simp)).trans (World.cell?_setCell_same _ _ _ pv_0)
    have nf0 : ((v55.setCell ⟨Bpv, 0, none⟩ (.int .i64 rt0)).setCell ⟨Bpv, 1, none⟩ (.slice va r0.length vc)).frozen? ⟨Bpv, 0, none⟩ = false := by simp only [World.frozen?_setCell]; exact pv_f0
    have nx1 : ((v55.setCell ⟨Bpv, 0, none⟩ (.int .i64 rt0)).setCell ⟨Bpv, 1, none⟩ (.slice va r0.length vc)).cell? ⟨Bpv, 1, none⟩ = some (.slice va r0.length vc) := World.cell?_setCell_same _ _ _ ((World.cell?_setCell_other _ _ _ _ (by simp)).trans pv_1)
    have nf1 : ((v55.setCell ⟨Bpv, 0, none⟩ (.int .i64 rt0)).setCell ⟨Bpv, 1, none⟩ (.slice va r0.length vc)).frozen? ⟨Bpv, 1, none⟩ = false := by simp only [World.frozen?_setCell]; exact pv_f1
    clear pv_0 pv_f0 pv_1 pv_f1
    generalize hwn : ((v55.setCell ⟨Bpv, 0, none⟩ (.int .i64 rt0)).setCell ⟨Bpv, 1, none⟩ (.slice va r0.length vc)) = v56 at *
    clear hwn
    have sz56 : v55.heap.size ≤ v56.heap.size := hg.size
    replace x0_0 := cell_grow hg x0_0 (fun g e => by (have e2 : Bpv = g := by simpa using e); omega)
    replace x0_1 := cell_grow hg x0_1 (fun g e => by (have e2 : Bpv = g := by simpa using e); omega)
    replace x1_0 := cell_grow hg x1_0 (fun g e => by (have e2 : Bpv = g := by simpa using e); omega)
    replace x1_1 := cell_grow hg x1_1 (fun g e => by (have e2 : Bpv = g := by simpa using e); omega)
    replace OR8 := Lib.hid (own_grow hg OR8.out (fun g e => by (have e2 : Bpv = g := by simpa using e); omega))
    have HBh56 := Lib.hid (HBh55.out.grown hg (by have := HBh55.out.size; omega) (fun g e => by (have e2 : Bpv = g := by simpa using e); omega))
    have pv_0 := nx0
    have pv_f0 := nf0
    have pv_1 := nx1
    have pv_f1 := nf1
    clear hg nx0 nf0 nx1 nf1
    refine hK.out _ _ ?_ (fun hHeld => ?_)
    · exact ⟨x0_0, x0_1, x1_0, x1_1⟩
    clear hK K
    try simp only [List.getElem_toArray, List.getElem_cons_succ, List.getElem_cons_zero, Act.put, List.setIfInBounds_toArray, List.set_cons_zero, List.set_cons_succ]
    refine wpAnyH_take (i := 10) (v := ?_) rfl (by kernel_rfl) (by kernel_rfl) (by kernel_rfl) (fun _ _ _ h => h) (Or.inl ⟨by rfl, ?_⟩) (by assumption) ?_
    rotate_left
    · intro w9 hSw; (try dsimp only at hSw); go_simp; try with_reducible rfl
    try simp only [List.getElem_toArray, List.getElem_cons_succ, List.getElem_cons_zero, Act.put, List.setIfInBounds_toArray, List.set_cons_zero, List.set_cons_succ]
    refine wpAnyH_done (by kernel_rfl) ?_ _
    refine NoPanic.normal ?_
    clear hHeld
    go_wp2_with fail
    go_meet
    exact ⟨Bpv, v54.heap.size, v55.heap.size, va, vc, rfl, rfl, pv_0, pv_1, OR8.out, by omega, by omega, by omega, by omega, HBh56.out⟩
  case rest =>
    obtain ⟨w4, hwn⟩ : ∃ W9, W9 = wc := ⟨_, rfl⟩
    subst hwn
    obtain ⟨B8, lo8, hi8, va, vc, rfl, rfl, yv_0, yv_1, hov, k81, k82, k83, k84, hb⟩ := hcut
    have s3 : w2.heap.size ≤ w4.heap.size := hb.size
    have n3_0 : w.heap.size < w4.heap.size := by omega
    have n3_1 : w.heap.size + 1 < w4.heap.size := by omega
    replace x0_0 := cell_below hb x0_0 (by omega)
    replace x0_1 := cell_below hb x0_1 (by omega)
    replace x1_0 := cell_below hb x1_0 (by omega)
    replace x1_1 := cell_below hb x1_1 (by omega)
    have HB3 := Lib.hid (HB2.out.trans (hb.mono (by omega)))
    clear hb
    have HB4 := HB3
    have Ov := Lib.hid hov
    clear hov
    go_wp2_with fail
    refine (netfns.to_any a0 ls0 c0 t0 _ (HR0.out.below HB4.out) (by omega)).mono ?_
    rintro e w5 ⟨v, rfl, ho, hb⟩
    obtain ⟨x0a, x0c, rfl, _, _, _⟩ := ho.slice
    have s5 : w4.heap.size ≤ w5.heap.size := hb.size
    have n5_0 : w.heap.size < w5.heap.size := by omega
    have n5_1 : w.heap.size + 1 < w5.heap.size := by omega
    have n5_2 : B8 < w5.heap.size := by omega
    replace x0_0 := cell_below hb x0_0 (by omega)
    replace x0_1 := cell_below hb x0_1 (by omega)
    replace x1_0 := cell_below hb x1_0 (by omega)
    replace x1_1 := cell_below hb x1_1 (by omega)
    replace yv_0 := cell_below hb yv_0 (by omega)
    replace yv_1 := cell_below hb yv_1 (by omega)
    have HB5 := Lib.hid (HB4.out.trans (hb.mono (by omega)))
    replace Ov := Lib.hid (Ov.out.below hb)
    clear hb
    have Ox0 := Lib.hid ho
    clear ho
    go_wp2_with fail
    have p0_0 : (w5.alloc (.cells #[.int .i64 t0, .slice x0a ls0.length x0c] 44)).cell? ⟨w5.heap.size, 0, none⟩ = some (.int .i64 t0) := cell_new _ _ _ rfl rfl
    have p0_1 : (w5.alloc (.cells #[.int .i64 t0, .slice x0a ls0.length x0c] 44)).cell? ⟨w5.heap.size, 1, none⟩ = some (.slice x0a ls0.length x0c) := cell_new _ _ _ rfl rfl
    have hb := below_alloc w5 (.cells #[.int .i64 t0, .slice x0a ls0.length x0c] 44)
    have z6 := size_alloc' w5 (.cells #[.int .i64 t0, .slice x0a ls0.length x0c] 44)
    generalize hw : w5.alloc (.cells #[.int .i64 t0, .slice x0a ls0.length x0c] 44) = w6 at *
    clear hw
    have s6 : w5.heap.size ≤ w6.heap.size := hb.size
    have n6_0 : w.heap.size < w6.heap.size := by omega
    have n6_1 : w.heap.size + 1 < w6.heap.size := by omega
    have n6_2 : B8 < w6.heap.size := by omega
    replace x0_0 := cell_below hb x0_0 (by omega)
    replace x0_1 := cell_below hb x0_1 (by omega)
    replace x1_0 := cell_below hb x1_0 (by omega)
    replace x1_1 := cell_below hb x1_1 (by omega)
    replace yv_0 := cell_below hb yv_0 (by omega)
    replace yv_1 := cell_below hb yv_1 (by omega)
    have HB6 := Lib.hid (HB5.out.trans (hb.mono (by omega)))
    replace Ov := Lib.hid (Ov.out.below hb)
    replace Ox0 := Lib.hid (Ox0.out.below hb)
    clear hb
    refine (netfns.to_any a1 ls1 c1 t1 _ (HR1.out.below HB6.out) (by omega)).mono ?_
    rintro e w7 ⟨v, rfl, ho, hb⟩
    obtain ⟨x1a, x1c, rfl, _, _, _⟩ := ho.slice
    have s7 : w6.heap.size ≤ w7.heap.size := hb.size
    have n7_0 : w.heap.size < w7.heap.size := by omega
    have n7_1 : w.heap.size + 1 < w7.heap.size := by omega
    have n7_2 : B8 < w7.heap.size := by omega
    have n7_3 : w5.heap.size < w7.heap.size := by omega
    replace x0_0 := cell_below hb x0_0 (by omega)
    replace x0_1 := cell_below hb x0_1 (by omega)
    replace x1_0 := cell_below hb x1_0 (by omega)
    replace x1_1 := cell_below hb x1_1 (by omega)
    replace yv_0 := cell_below hb yv_0 (by omega)
    replace yv_1 := cell_below hb yv_1 (by omega)
    replace p0_0 := cell_below hb p0_0 (by omega)
    replace p0_1 := cell_below hb p0_1 (by omega)
    have HB7 := Lib.hid (HB6.out.trans (hb.mono (by omega)))
    replace Ov := Lib.hid (Ov.out.below hb)
    replace Ox0 := Lib.hid (Ox0.out.below hb)
    clear hb
    have Ox1 := Lib.hid ho
    clear ho
    go_wp2_with fail
    have p1_0 : (w7.alloc (.cells #[.int .i64 t1, .slice x1a ls1.length x1c] 44)).cell? ⟨w7.heap.size, 0, none⟩ = some (.int .i64 t1) := cell_new _ _ _ rfl rfl
    have p1_1 : (w7.alloc (.cells #[.int .i64 t1, .slice x1a ls1.length x1c] 44)).cell? ⟨w7.heap.size, 1, none⟩ = some (.slice x1a ls1.length x1c) := cell_new _ _ _ rfl rfl
    have hb := below_alloc w7 (.cells #[.int .i64 t1, .slice x1a ls1.length x1c] 44)
    have z8 := size_alloc' w7 (.cells #[.int .i64 t1, .slice x1a ls1.length x1c] 44)
    generalize hw : w7.alloc (.cells #[.int .i64 t1, .slice x1a ls1.length x1c] 44) = w8 at *
    clear hw
    have s8 : w7.heap.size ≤ w8.heap.size := hb.size
    have n8_0 : w.heap.size < w8.heap.size := by omega
    have n8_1 : w.heap.size + 1 < w8.heap.size := by omega
    have n8_2 : B8 < w8.heap.size := by omega
    have n8_3 : w5.heap.size < w8.heap.size := by omega
    replace x0_0 := cell_below hb x0_0 (by omega)
    replace x0_1 := cell_below hb x0_1 (by omega)
    replace x1_0 := cell_below hb x1_0 (by omega)
    replace x1_1 := cell_below hb x1_1 (by omega)
    replace yv_0 := cell_below hb yv_0 (by omega)
    replace yv_1 := cell_below hb yv_1 (by omega)
    replace p0_0 := cell_below hb p0_0 (by omega)
    replace p0_1 := cell_below hb p0_1 (by omega)
    have HB8 := Lib.hid (HB7.out.trans (hb.mono (by omega)))
    replace Ov := Lib.hid (Ov.out.below hb)
    replace Ox0 := Lib.hid (Ox0.out.below hb)
    replace Ox1 := Lib.hid (Ox1.out.below hb)
    clear hb
    refine (HImpl.out _ _ _ _ _ Ox0.out.reads Ox1.out.reads).mono ?_
    rintro e w9 ⟨v, rfl, ho, hb⟩
    obtain ⟨ga, gc, rfl, _, _, _⟩ := ho.slice
    have s9 : w8.heap.size ≤ w9.heap.size := hb.size
    have n9_0 : w.heap.size < w9.heap.size := by omega
    have n9_1 : w.heap.size + 1 < w9.heap.size := by omega
    have n9_2 : B8 < w9.heap.size := by omega
    have n9_3 : w5.heap.size < w9.heap.size := by omega
    have n9_4 : w7.heap.size < w9.heap.size := by omega
    replace x0_0 := cell_below hb x0_0 (by omega)
    replace x0_1 := cell_below hb x0_1 (by omega)
    replace x1_0 := cell_below hb x1_0 (by omega)
    replace x1_1 := cell_below hb x1_1 (by omega)
    replace yv_0 := cell_below hb yv_0 (by omega)
    replace yv_1 := cell_below hb yv_1 (by omega)
    replace p0_0 := cell_below hb p0_0 (by omega)
    replace p0_1 := cell_below hb p0_1 (by omega)
    replace p1_0 := cell_below hb p1_0 (by omega)
    replace p1_1 := cell_below hb p1_1 (by omega)
    have HB9 := Lib.hid (HB8.out.trans (hb.mono (by omega)))
    replace Ov := Lib.hid (Ov.out.below hb)
    replace Ox0 := Lib.hid (Ox0.out.below hb)
    replace Ox1 := Lib.hid (Ox1.out.below hb)
    clear hb
    have Og := Lib.hid ho
    clear ho
    go_wp2_with fail
    have yg_0 : (w9.alloc (.cells #[.int .i64 rt0, .slice ga r0.length gc] 44)).cell? ⟨w9.heap.size, 0, none⟩ = some (.int .i64 rt0) := cell_new _ _ _ rfl rfl
    have yg_1 : (w9.alloc (.cells #[.int .i64 rt0, .slice ga r0.length gc] 44)).cell? ⟨w9.heap.size, 1, none⟩ = some (.slice ga r0.length gc) := cell_new _ _ _ rfl rfl
    have hb := below_alloc w9 (.cells #[.int .i64 rt0, .slice ga r0.length gc] 44)
    have z10 := size_alloc' w9 (.cells #[.int .i64 rt0, .slice ga r0.length gc] 44)
    generalize hw : w9.alloc (.cells #[.int .i64 rt0, .slice ga r0.length gc] 44) = w10 at *
    clear hw
    have s10 : w9.heap.size ≤ w10.heap.size := hb.size
    have n10_0 : w.heap.size < w10.heap.size := by omega
    have n10_1 : w.heap.size + 1 < w10.heap.size := by omega
    have n10_2 : B8 < w10.heap.size := by omega
    have n10_3 : w5.heap.size < w10.heap.size := by omega
    have n10_4 : w7.heap.size < w10.heap.size := by omega
    replace x0_0 := cell_below hb x0_0 (by omega)
    replace x0_1 := cell_below hb x0_1 (by omega)
    replace x1_0 := cell_below hb x1_0 (by omega)
    replace x1_1 := cell_below hb x1_1 (by omega)
    replace yv_0 := cell_below hb yv_0 (by omega)
    replace yv_1 := cell_below hb yv_1 (by omega)
    replace p0_0 := cell_below hb p0_0 (by omega)
    replace p0_1 := cell_below hb p0_1 (by omega)
    replace p1_0 := cell_below hb p1_0 (by omega)
    replace p1_1 := cell_below hb p1_1 (by omega)
    have HB10 := Lib.hid (HB9.out.trans (hb.mono (by omega)))
    replace Ov := Lib.hid (Ov.out.below hb)
    replace Ox0 := Lib.hid (Ox0.out.below hb)
    replace Ox1 := Lib.hid (Ox1.out.below hb)
    replace Og := Lib.hid (Og.out.below hb)
    clear hb
    refine (netfns.eq_same _ _ r0 _ _ rt0 _ Og.out.reads Ov.out.reads (by omega) (fun s hs => by have h9 := len_le_totL r0 s hs; refine ⟨by omega, fun y hy => ?_⟩; have := planesfns.len_le_totJ s y hy; omega)).mono ?_
    rintro e w11 ⟨rfl, hb⟩
    have s11 : w10.heap.size ≤ w11.heap.size := hb.size
    have n11_0 : w.heap.size < w11.heap.size := by omega
    have n11_1 : w.heap.size + 1 < w11.heap.size := by omega
    have n11_2 : B8 < w11.heap.size := by omega
    have n11_3 : w5.heap.size < w11.heap.size := by omega
    have n11_4 : w7.heap.size < w11.heap.size := by omega
    have n11_5 : w9.heap.size < w11.heap.size := by omega
    replace x0_0 := cell_below hb x0_0 (by omega)
    replace x0_1 := cell_below hb x0_1 (by omega)
    replace x1_0 := cell_below hb x1_0 (by omega)
    replace x1_1 := cell_below hb x1_1 (by omega)
    replace yv_0 := cell_below hb yv_0 (by omega)
    replace yv_1 := cell_below hb yv_1 (by omega)
    replace p0_0 := cell_below hb p0_0 (by omega)
    replace p0_1 := cell_below hb p0_1 (by omega)
    replace p1_0 := cell_below hb p1_0 (by omega)
    replace p1_1 := cell_below hb p1_1 (by omega)
    replace yg_0 := cell_below hb yg_0 (by omega)
    replace yg_1 := cell_below hb yg_1 (by omega)
    have HB11 := Lib.hid (HB10.out.trans (hb.mono (by omega)))
    replace Ov := Lib.hid (Ov.out.below hb)
    replace Ox0 := Lib.hid (Ox0.out.below hb)
    replace Ox1 := Lib.hid (Ox1.out.below hb)
    replace Og := Lib.hid (Og.out.below hb)
    clear hb
    go_wp2_with fail
    have HT1 := Lib.hid (show ∀ wa : World, (wa.cell? ⟨w.heap.size, 0, none⟩ = some (.int .i64 t0) ∧ wa.cell? ⟨w.heap.size, 1, none⟩ = some (.slice a0 ls0.length c0) ∧ wa.cell? ⟨w.heap.size + 1, 0, none⟩ = some (.int .i64 t1) ∧ wa.cell? ⟨w.heap.size + 1, 1, none⟩ = some (.slice a1 ls1.length c1) ∧ wa.cell? ⟨B8, 0, none⟩ = some (.int .i64 rt0) ∧ wa.cell? ⟨B8, 1, none⟩ = some (.slice va r0.length vc) ∧ wa.cell? ⟨w5.heap.size, 0, none⟩ = some (.int .i64 t0) ∧ wa.cell? ⟨w5.heap.size, 1, none⟩ = some (.slice x0a ls0.length x0c) ∧ wa.cell? ⟨w7.heap.size, 0, none⟩ = some (.int .i64 t1) ∧ wa.cell? ⟨w7.heap.size, 1, none⟩ = some (.slice x1a ls1.length x1c) ∧ wa.cell? ⟨w9.heap.size, 0, none⟩ = some (.int .i64 rt0) ∧ wa.cell? ⟨w9.heap.size, 1, none⟩ = some (.slice ga r0.length gc) ∧ Below w11.heap.size w11 wa) → Calls Try.prog 24 #[.agg #[.int .i64 t0, .slice a0 ls0.length c0]] wa fun e w' => ∃ p q, e = .returned (.agg #[.int .i64 t0, .slice p ls0.length q]) ∧ ReadsL w' p ls0 ∧ (w'.cell? ⟨w.heap.size, 0, none⟩ = some (.int .i64 t0) ∧ w'.cell? ⟨w.heap.size, 1, none⟩ = some (.slice a0 ls0.length c0) ∧ w'.cell? ⟨w.heap.size + 1, 0, none⟩ = some (.int .i64 t1) ∧ w'.cell? ⟨w.heap.size + 1, 1, none⟩ = some (.slice a1 ls1.length c1) ∧ w'.cell? ⟨B8, 0, none⟩ = some (.int .i64 rt0) ∧ w'.cell? ⟨B8, 1, none⟩ = some (.slice va r0.length vc) ∧ w'.cell? ⟨w5.heap.size, 0, none⟩ = some (.int .i64 t0) ∧ w'.cell? ⟨w5.heap.size, 1, none⟩ = some (.slice x0a ls0.length x0c) ∧ w'.cell? ⟨w7.heap.size, 0, none⟩ = some (.int .i64 t1) ∧ w'.cell? ⟨w7.heap.size, 1, none⟩ = some (.slice x1a ls1.length x1c) ∧ w'.cell? ⟨w9.heap.size, 0, none⟩ = some (.int .i64 rt0) ∧ w'.cell? ⟨w9.heap.size, 1, none⟩ = some (.slice ga r0.length gc) ∧ Below w11.heap.size w11 w') from fun wa hS => by
      have hz := hS.2.2.2.2.2.2.2.2.2.2.2.2.size
      refine (netfns.to_any a0 ls0 c0 t0 _ (HR0.out.below (HB11.out.trans (hS.2.2.2.2.2.2.2.2.2.2.2.2.mono (by omega)))) (by omega)).mono ?_
      rintro e w' ⟨v, rfl, ho, hb⟩
      obtain ⟨p, q, rfl, _, _, _⟩ := ho.slice
      exact ⟨p, q, rfl, ho.reads, cell_below hb hS.1 (by omega), cell_below hb hS.2.1 (by omega), cell_below hb hS.2.2.1 (by omega), cell_below hb hS.2.2.2.1 (by omega), cell_below hb hS.2.2.2.2.1 (by omega), cell_below hb hS.2.2.2.2.2.1 (by omega), cell_below hb hS.2.2.2.2.2.2.1 (by omega), cell_below hb hS.2.2.2.2.2.2.2.1 (by omega), cell_below hb hS.2.2.2.2.2.2.2.2.1 (by omega), cell_below hb hS.2.2.2.2.2.2.2.2.2.1 (by omega), cell_below hb hS.2.2.2.2.2.2.2.2.2.2.1 (by omega), cell_below hb hS.2.2.2.2.2.2.2.2.2.2.2.1 (by omega), hS.2.2.2.2.2.2.2.2.2.2.2.2.trans (hb.mono (by omega))⟩)
    have HT2 := Lib.hid (show ∀ (wa : World) (p : Option Addr) (q : Nat), (wa.cell? ⟨w.heap.size, 0, none⟩ = some (.int .i64 t0) ∧ wa.cell? ⟨w.heap.size, 1, none⟩ = some (.slice a0 ls0.length c0) ∧ wa.cell? ⟨w.heap.size + 1, 0, none⟩ = some (.int .i64 t1) ∧ wa.cell? ⟨w.heap.size + 1, 1, none⟩ = some (.slice a1 ls1.length c1) ∧ wa.cell? ⟨B8, 0, none⟩ = some (.int .i64 rt0) ∧ wa.cell? ⟨B8, 1, none⟩ = some (.slice va r0.length vc) ∧ wa.cell? ⟨w5.heap.size, 0, none⟩ = some (.int .i64 t0) ∧ wa.cell? ⟨w5.heap.size, 1, none⟩ = some (.slice x0a ls0.length x0c) ∧ wa.cell? ⟨w7.heap.size, 0, none⟩ = some (.int .i64 t1) ∧ wa.cell? ⟨w7.heap.size, 1, none⟩ = some (.slice x1a ls1.length x1c) ∧ wa.cell? ⟨w9.heap.size, 0, none⟩ = some (.int .i64 rt0) ∧ wa.cell? ⟨w9.heap.size, 1, none⟩ = some (.slice ga r0.length gc) ∧ Below w11.heap.size w11 wa) → ReadsL wa p ls0 → Calls Try.prog 26 #[.agg #[.int .i64 t0, .slice x0a ls0.length x0c], .agg #[.int .i64 t0, .slice p ls0.length q]] wa fun e w' => e = .returned (.bool true) ∧ (w'.cell? ⟨w.heap.size, 0, none⟩ = some (.int .i64 t0) ∧ w'.cell? ⟨w.heap.size, 1, none⟩ = some (.slice a0 ls0.length c0) ∧ w'.cell? ⟨w.heap.size + 1, 0, none⟩ = some (.int .i64 t1) ∧ w'.cell? ⟨w.heap.size + 1, 1, none⟩ = some (.slice a1 ls1.length c1) ∧ w'.cell? ⟨B8, 0, none⟩ = some (.int .i64 rt0) ∧ w'.cell? ⟨B8, 1, none⟩ = some (.slice va r0.length vc) ∧ w'.cell? ⟨w5.heap.size, 0, none⟩ = some (.int .i64 t0) ∧ w'.cell? ⟨w5.heap.size, 1, none⟩ = some (.slice x0a ls0.length x0c) ∧ w'.cell? ⟨w7.heap.size, 0, none⟩ = some (.int .i64 t1) ∧ w'.cell? ⟨w7.heap.size, 1, none⟩ = some (.slice x1a ls1.length x1c) ∧ w'.cell? ⟨w9.heap.size, 0, none⟩ = some (.int .i64 rt0) ∧ w'.cell? ⟨w9.heap.size, 1, none⟩ = some (.slice ga r0.length gc) ∧ Below w11.heap.size w11 w') from fun wa p q hS k1 => by
      have hz := hS.2.2.2.2.2.2.2.2.2.2.2.2.size
      have ho := Ox0.out.below hS.2.2.2.2.2.2.2.2.2.2.2.2
      refine (netfns.eq_same _ _ ls0 _ _ t0 _ ho.reads k1 (by omega) (fun s hs => by have h9 := len_le_totL ls0 s hs; refine ⟨by omega, fun y hy => ?_⟩; have := planesfns.len_le_totJ s y hy; omega)).mono ?_
      rintro e w' ⟨rfl, hb⟩
      exact ⟨rfl, cell_below hb hS.1 (by omega), cell_below hb hS.2.1 (by omega), cell_below hb hS.2.2.1 (by omega), cell_below hb hS.2.2.2.1 (by omega), cell_below hb hS.2.2.2.2.1 (by omega), cell_below hb hS.2.2.2.2.2.1 (by omega), cell_below hb hS.2.2.2.2.2.2.1 (by omega), cell_below hb hS.2.2.2.2.2.2.2.1 (by omega), cell_below hb hS.2.2.2.2.2.2.2.2.1 (by omega), cell_below hb hS.2.2.2.2.2.2.2.2.2.1 (by omega), cell_below hb hS.2.2.2.2.2.2.2.2.2.2.1 (by omega), cell_below hb hS.2.2.2.2.2.2.2.2.2.2.2.1 (by omega), hS.2.2.2.2.2.2.2.2.2.2.2.2.trans (hb.mono (by omega))⟩)
    go_region_held3 (fun w' => w'.cell? ⟨w.heap.size, 0, none⟩ = some (.int .i64 t0) ∧ w'.cell? ⟨w.heap.size, 1, none⟩ = some (.slice a0 ls0.length c0) ∧ w'.cell? ⟨w.heap.size + 1, 0, none⟩ = some (.int .i64 t1) ∧ w'.cell? ⟨w.heap.size + 1, 1, none⟩ = some (.slice a1 ls1.length c1) ∧ w'.cell? ⟨B8, 0, none⟩ = some (.int .i64 rt0) ∧ w'.cell? ⟨B8, 1, none⟩ = some (.slice va r0.length vc) ∧ w'.cell? ⟨w5.heap.size, 0, none⟩ = some (.int .i64 t0) ∧ w'.cell? ⟨w5.heap.size, 1, none⟩ = some (.slice x0a ls0.length x0c) ∧ w'.cell? ⟨w7.heap.size, 0, none⟩ = some (.int .i64 t1) ∧ w'.cell? ⟨w7.heap.size, 1, none⟩ = some (.slice x1a ls1.length x1c) ∧ w'.cell? ⟨w9.heap.size, 0, none⟩ = some (.int .i64 rt0) ∧ w'.cell? ⟨w9.heap.size, 1, none⟩ = some (.slice ga r0.length gc) ∧ Below w11.heap.size w11 w') (first | assumption | exact ⟨x0_0, x0_1, x1_0, x1_1, yv_0, yv_1, p0_0, p0_1, p1_0, p1_1, yg_0, yg_1, Below.refl _ _⟩ | exact ⟨x0_0, x0_1, x1_0, x1_1, yv_0, yv_1, p0_0, p0_1, p1_0, p1_1, yg_0, yg_1, (Below.refl _ _).drew⟩) (first | (go_at_call 24; refine Calls.mono (HT1.out _ ?_) ?_; assumption; rintro e w' ⟨p, q, rfl, k1, hbx⟩) | (go_at_call 26; refine Calls.mono (HT2.out _ _ _ ?_ ?_) ?_; assumption; assumption; rintro e w12 ⟨rfl, hbx⟩))
    obtain ⟨_, _, _, _, _, _, _, _, _, _, _, _, hb⟩ := hbx
    have s12 : w11.heap.size ≤ w12.heap.size := hb.size
    have n12_0 : w.heap.size < w12.heap.size := by omega
    have n12_1 : w.heap.size + 1 < w12.heap.size := by omega
    have n12_2 : B8 < w12.heap.size := by omega
    have n12_3 : w5.heap.size < w12.heap.size := by omega
    have n12_4 : w7.heap.size < w12.heap.size := by omega
    have n12_5 : w9.heap.size < w12.heap.size := by omega
    replace x0_0 := cell_below hb x0_0 (by omega)
    replace x0_1 := cell_below hb x0_1 (by omega)
    replace x1_0 := cell_below hb x1_0 (by omega)
    replace x1_1 := cell_below hb x1_1 (by omega)
    replace yv_0 := cell_below hb yv_0 (by omega)
    replace yv_1 := cell_below hb yv_1 (by omega)
    replace p0_0 := cell_below hb p0_0 (by omega)
    replace p0_1 := cell_below hb p0_1 (by omega)
    replace p1_0 := cell_below hb p1_0 (by omega)
    replace p1_1 := cell_below hb p1_1 (by omega)
    replace yg_0 := cell_below hb yg_0 (by omega)
    replace yg_1 := cell_below hb yg_1 (by omega)
    have HB12 := Lib.hid (HB11.out.trans (hb.mono (by omega)))
    replace Ov := Lib.hid (Ov.out.below hb)
    replace Ox0 := Lib.hid (Ox0.out.below hb)
    replace Ox1 := Lib.hid (Ox1.out.below hb)
    replace Og := Lib.hid (Og.out.below hb)
    clear hb
    clear HT1 HT2
    go_wp2_with fail
    have HT1 := Lib.hid (show ∀ wa : World, (wa.cell? ⟨w.heap.size, 0, none⟩ = some (.int .i64 t0) ∧ wa.cell? ⟨w.heap.size, 1, none⟩ = some (.slice a0 ls0.length c0) ∧ wa.cell? ⟨w.heap.size + 1, 0, none⟩ = some (.int .i64 t1) ∧ wa.cell? ⟨w.heap.size + 1, 1, none⟩ = some (.slice a1 ls1.length c1) ∧ wa.cell? ⟨B8, 0, none⟩ = some (.int .i64 rt0) ∧ wa.cell? ⟨B8, 1, none⟩ = some (.slice va r0.length vc) ∧ wa.cell? ⟨w5.heap.size, 0, none⟩ = some (.int .i64 t0) ∧ wa.cell? ⟨w5.heap.size, 1, none⟩ = some (.slice x0a ls0.length x0c) ∧ wa.cell? ⟨w7.heap.size, 0, none⟩ = some (.int .i64 t1) ∧ wa.cell? ⟨w7.heap.size, 1, none⟩ = some (.slice x1a ls1.length x1c) ∧ wa.cell? ⟨w9.heap.size, 0, none⟩ = some (.int .i64 rt0) ∧ wa.cell? ⟨w9.heap.size, 1, none⟩ = some (.slice ga r0.length gc) ∧ Below w12.heap.size w12 wa) → Calls Try.prog 24 #[.agg #[.int .i64 t1, .slice a1 ls1.length c1]] wa fun e w' => ∃ p q, e = .returned (.agg #[.int .i64 t1, .slice p ls1.length q]) ∧ ReadsL w' p ls1 ∧ (w'.cell? ⟨w.heap.size, 0, none⟩ = some (.int .i64 t0) ∧ w'.cell? ⟨w.heap.size, 1, none⟩ = some (.slice a0 ls0.length c0) ∧ w'.cell? ⟨w.heap.size + 1, 0, none⟩ = some (.int .i64 t1) ∧ w'.cell? ⟨w.heap.size + 1, 1, none⟩ = some (.slice a1 ls1.length c1) ∧ w'.cell? ⟨B8, 0, none⟩ = some (.int .i64 rt0) ∧ w'.cell? ⟨B8, 1, none⟩ = some (.slice va r0.length vc) ∧ w'.cell? ⟨w5.heap.size, 0, none⟩ = some (.int .i64 t0) ∧ w'.cell? ⟨w5.heap.size, 1, none⟩ = some (.slice x0a ls0.length x0c) ∧ w'.cell? ⟨w7.heap.size, 0, none⟩ = some (.int .i64 t1) ∧ w'.cell? ⟨w7.heap.size, 1, none⟩ = some (.slice x1a ls1.length x1c) ∧ w'.cell? ⟨w9.heap.size, 0, none⟩ = some (.int .i64 rt0) ∧ w'.cell? ⟨w9.heap.size, 1, none⟩ = some (.slice ga r0.length gc) ∧ Below w12.heap.size w12 w') from fun wa hS => by
      have hz := hS.2.2.2.2.2.2.2.2.2.2.2.2.size
      refine (netfns.to_any a1 ls1 c1 t1 _ (HR1.out.below (HB12.out.trans (hS.2.2.2.2.2.2.2.2.2.2.2.2.mono (by omega)))) (by omega)).mono ?_
      rintro e w' ⟨v, rfl, ho, hb⟩
      obtain ⟨p, q, rfl, _, _, _⟩ := ho.slice
      exact ⟨p, q, rfl, ho.reads, cell_below hb hS.1 (by omega), cell_below hb hS.2.1 (by omega), cell_below hb hS.2.2.1 (by omega), cell_below hb hS.2.2.2.1 (by omega), cell_below hb hS.2.2.2.2.1 (by omega), cell_below hb hS.2.2.2.2.2.1 (by omega), cell_below hb hS.2.2.2.2.2.2.1 (by omega), cell_below hb hS.2.2.2.2.2.2.2.1 (by omega), cell_below hb hS.2.2.2.2.2.2.2.2.1 (by omega), cell_below hb hS.2.2.2.2.2.2.2.2.2.1 (by omega), cell_below hb hS.2.2.2.2.2.2.2.2.2.2.1 (by omega), cell_below hb hS.2.2.2.2.2.2.2.2.2.2.2.1 (by omega), hS.2.2.2.2.2.2.2.2.2.2.2.2.trans (hb.mono (by omega))⟩)
    have HT2 := Lib.hid (show ∀ (wa : World) (p : Option Addr) (q : Nat), (wa.cell? ⟨w.heap.size, 0, none⟩ = some (.int .i64 t0) ∧ wa.cell? ⟨w.heap.size, 1, none⟩ = some (.slice a0 ls0.length c0) ∧ wa.cell? ⟨w.heap.size + 1, 0, none⟩ = some (.int .i64 t1) ∧ wa.cell? ⟨w.heap.size + 1, 1, none⟩ = some (.slice a1 ls1.length c1) ∧ wa.cell? ⟨B8, 0, none⟩ = some (.int .i64 rt0) ∧ wa.cell? ⟨B8, 1, none⟩ = some (.slice va r0.length vc) ∧ wa.cell? ⟨w5.heap.size, 0, none⟩ = some (.int .i64 t0) ∧ wa.cell? ⟨w5.heap.size, 1, none⟩ = some (.slice x0a ls0.length x0c) ∧ wa.cell? ⟨w7.heap.size, 0, none⟩ = some (.int .i64 t1) ∧ wa.cell? ⟨w7.heap.size, 1, none⟩ = some (.slice x1a ls1.length x1c) ∧ wa.cell? ⟨w9.heap.size, 0, none⟩ = some (.int .i64 rt0) ∧ wa.cell? ⟨w9.heap.size, 1, none⟩ = some (.slice ga r0.length gc) ∧ Below w12.heap.size w12 wa) → ReadsL wa p ls1 → Calls Try.prog 26 #[.agg #[.int .i64 t1, .slice x1a ls1.length x1c], .agg #[.int .i64 t1, .slice p ls1.length q]] wa fun e w' => e = .returned (.bool true) ∧ (w'.cell? ⟨w.heap.size, 0, none⟩ = some (.int .i64 t0) ∧ w'.cell? ⟨w.heap.size, 1, none⟩ = some (.slice a0 ls0.length c0) ∧ w'.cell? ⟨w.heap.size + 1, 0, none⟩ = some (.int .i64 t1) ∧ w'.cell? ⟨w.heap.size + 1, 1, none⟩ = some (.slice a1 ls1.length c1) ∧ w'.cell? ⟨B8, 0, none⟩ = some (.int .i64 rt0) ∧ w'.cell? ⟨B8, 1, none⟩ = some (.slice va r0.length vc) ∧ w'.cell? ⟨w5.heap.size, 0, none⟩ = some (.int .i64 t0) ∧ w'.cell? ⟨w5.heap.size, 1, none⟩ = some (.slice x0a ls0.length x0c) ∧ w'.cell? ⟨w7.heap.size, 0, none⟩ = some (.int .i64 t1) ∧ w'.cell? ⟨w7.heap.size, 1, none⟩ = some (.slice x1a ls1.length x1c) ∧ w'.cell? ⟨w9.heap.size, 0, none⟩ = some (.int .i64 rt0) ∧ w'.cell? ⟨w9.heap.size, 1, none⟩ = some (.slice ga r0.length gc) ∧ Below w12.heap.size w12 w') from fun wa p q hS k1 => by
      have hz := hS.2.2.2.2.2.2.2.2.2.2.2.2.size
      have ho := Ox1.out.below hS.2.2.2.2.2.2.2.2.2.2.2.2
      refine (netfns.eq_same _ _ ls1 _ _ t1 _ ho.reads k1 (by omega) (fun s hs => by have h9 := len_le_totL ls1 s hs; refine ⟨by omega, fun y hy => ?_⟩; have := planesfns.len_le_totJ s y hy; omega)).mono ?_
      rintro e w' ⟨rfl, hb⟩
      exact ⟨rfl, cell_below hb hS.1 (by omega), cell_below hb hS.2.1 (by omega), cell_below hb hS.2.2.1 (by omega), cell_below hb hS.2.2.2.1 (by omega), cell_below hb hS.2.2.2.2.1 (by omega), cell_below hb hS.2.2.2.2.2.1 (by omega), cell_below hb hS.2.2.2.2.2.2.1 (by omega), cell_below hb hS.2.2.2.2.2.2.2.1 (by omega), cell_below hb hS.2.2.2.2.2.2.2.2.1 (by omega), cell_below hb hS.2.2.2.2.2.2.2.2.2.1 (by omega), cell_below hb hS.2.2.2.2.2.2.2.2.2.2.1 (by omega), cell_below hb hS.2.2.2.2.2.2.2.2.2.2.2.1 (by omega), hS.2.2.2.2.2.2.2.2.2.2.2.2.trans (hb.mono (by omega))⟩)
    go_region_held3 (fun w' => w'.cell? ⟨w.heap.size, 0, none⟩ = some (.int .i64 t0) ∧ w'.cell? ⟨w.heap.size, 1, none⟩ = some (.slice a0 ls0.length c0) ∧ w'.cell? ⟨w.heap.size + 1, 0, none⟩ = some (.int .i64 t1) ∧ w'.cell? ⟨w.heap.size + 1, 1, none⟩ = some (.slice a1 ls1.length c1) ∧ w'.cell? ⟨B8, 0, none⟩ = some (.int .i64 rt0) ∧ w'.cell? ⟨B8, 1, none⟩ = some (.slice va r0.length vc) ∧ w'.cell? ⟨w5.heap.size, 0, none⟩ = some (.int .i64 t0) ∧ w'.cell? ⟨w5.heap.size, 1, none⟩ = some (.slice x0a ls0.length x0c) ∧ w'.cell? ⟨w7.heap.size, 0, none⟩ = some (.int .i64 t1) ∧ w'.cell? ⟨w7.heap.size, 1, none⟩ = some (.slice x1a ls1.length x1c) ∧ w'.cell? ⟨w9.heap.size, 0, none⟩ = some (.int .i64 rt0) ∧ w'.cell? ⟨w9.heap.size, 1, none⟩ = some (.slice ga r0.length gc) ∧ Below w12.heap.size w12 w') (first | assumption | exact ⟨x0_0, x0_1, x1_0, x1_1, yv_0, yv_1, p0_0, p0_1, p1_0, p1_1, yg_0, yg_1, Below.refl _ _⟩ | exact ⟨x0_0, x0_1, x1_0, x1_1, yv_0, yv_1, p0_0, p0_1, p1_0, p1_1, yg_0, yg_1, (Below.refl _ _).drew⟩) (first | (go_at_call 24; refine Calls.mono (HT1.out _ ?_) ?_; assumption; rintro e w' ⟨p, q, rfl, k1, hbx⟩) | (go_at_call 26; refine Calls.mono (HT2.out _ _ _ ?_ ?_) ?_; assumption; assumption; rintro e w13 ⟨rfl, hbx⟩))
    obtain ⟨_, _, _, _, _, _, _, _, _, _, _, _, hb⟩ := hbx
    have s13 : w12.heap.size ≤ w13.heap.size := hb.size
    have n13_0 : w.heap.size < w13.heap.size := by omega
    have n13_1 : w.heap.size + 1 < w13.heap.size := by omega
    have n13_2 : B8 < w13.heap.size := by omega
    have n13_3 : w5.heap.size < w13.heap.size := by omega
    have n13_4 : w7.heap.size < w13.heap.size := by omega
    have n13_5 : w9.heap.size < w13.heap.size := by omega
    replace x0_0 := cell_below hb x0_0 (by omega)
    replace x0_1 := cell_below hb x0_1 (by omega)
    replace x1_0 := cell_below hb x1_0 (by omega)
    replace x1_1 := cell_below hb x1_1 (by omega)
    replace yv_0 := cell_below hb yv_0 (by omega)
    replace yv_1 := cell_below hb yv_1 (by omega)
    replace p0_0 := cell_below hb p0_0 (by omega)
    replace p0_1 := cell_below hb p0_1 (by omega)
    replace p1_0 := cell_below hb p1_0 (by omega)
    replace p1_1 := cell_below hb p1_1 (by omega)
    replace yg_0 := cell_below hb yg_0 (by omega)
    replace yg_1 := cell_below hb yg_1 (by omega)
    have HB13 := Lib.hid (HB12.out.trans (hb.mono (by omega)))
    replace Ov := Lib.hid (Ov.out.below hb)
    replace Ox0 := Lib.hid (Ox0.out.below hb)
    replace Ox1 := Lib.hid (Ox1.out.below hb)
    replace Og := Lib.hid (Og.out.below hb)
    clear hb
    clear HT1 HT2
    go_wp2_with fail
    refine (netfns.mark_any (w4.heap.size) (w5.heap.size) _ _ ls0 t0 (1) _ Ox0.out (by omega) (by omega)).mono ?_
    rintro e w14 ⟨rfl, ho, hb⟩
    have s14 : w13.heap.size ≤ w14.heap.size := hb.size
    have n14_0 : w.heap.size < w14.heap.size := by omega
    have n14_1 : w.heap.size + 1 < w14.heap.size := by omega
    have n14_2 : B8 < w14.heap.size := by omega
    have n14_3 : w5.heap.size < w14.heap.size := by omega
    have n14_4 : w7.heap.size < w14.heap.size := by omega
    have n14_5 : w9.heap.size < w14.heap.size := by omega
    replace x0_0 := hb.cell x0_0 (by omega) (by omega)
    replace x0_1 := hb.cell x0_1 (by omega) (by omega)
    replace x1_0 := hb.cell x1_0 (by omega) (by omega)
    replace x1_1 := hb.cell x1_1 (by omega) (by omega)
    replace yv_0 := hb.cell yv_0 (by omega) (by omega)
    replace yv_1 := hb.cell yv_1 (by omega) (by omega)
    replace p0_0 := hb.cell p0_0 (by omega) (by omega)
    replace p0_1 := hb.cell p0_1 (by omega) (by omega)
    replace p1_0 := hb.cell p1_0 (by omega) (by omega)
    replace p1_1 := hb.cell p1_1 (by omega) (by omega)
    replace yg_0 := hb.cell yg_0 (by omega) (by omega)
    replace yg_1 := hb.cell yg_1 (by omega) (by omega)
    have HB14 := Lib.hid (HB13.out.trans ((hb.below (by omega)).mono (by omega)))
    replace Ov := Lib.hid (Ov.out.only hb (by omega))
    replace Ox1 := Lib.hid (Ox1.out.only hb (by omega))
    replace Og := Lib.hid (Og.out.only hb (by omega))
    clear hb
    replace Ox0 := Lib.hid ho
    clear ho
    go_wp2_with fail
    refine (netfns.mark_any (w6.heap.size) (w7.heap.size) _ _ ls1 t1 (1 + totL ls0) _ Ox1.out (by omega) (by omega)).mono ?_
    rintro e w15 ⟨rfl, ho, hb⟩
    have s15 : w14.heap.size ≤ w15.heap.size := hb.size
    have n15_0 : w.heap.size < w15.heap.size := by omega
    have n15_1 : w.heap.size + 1 < w15.heap.size := by omega
    have n15_2 : B8 < w15.heap.size := by omega
    have n15_3 : w5.heap.size < w15.heap.size := by omega
    have n15_4 : w7.heap.size < w15.heap.size := by omega
    have n15_5 : w9.heap.size < w15.heap.size := by omega
    replace x0_0 := hb.cell x0_0 (by omega) (by omega)
    replace x0_1 := hb.cell x0_1 (by omega) (by omega)
    replace x1_0 := hb.cell x1_0 (by omega) (by omega)
    replace x1_1 := hb.cell x1_1 (by omega) (by omega)
    replace yv_0 := hb.cell yv_0 (by omega) (by omega)
    replace yv_1 := hb.cell yv_1 (by omega) (by omega)
    replace p0_0 := hb.cell p0_0 (by omega) (by omega)
    replace p0_1 := hb.cell p0_1 (by omega) (by omega)
    replace p1_0 := hb.cell p1_0 (by omega) (by omega)
    replace p1_1 := hb.cell p1_1 (by omega) (by omega)
    replace yg_0 := hb.cell yg_0 (by omega) (by omega)
    replace yg_1 := hb.cell yg_1 (by omega) (by omega)
    have HB15 := Lib.hid (HB14.out.trans ((hb.below (by omega)).mono (by omega)))
    replace Ov := Lib.hid (Ov.out.only hb (by omega))
    replace Ox0 := Lib.hid (Ox0.out.only hb (by omega))
    replace Og := Lib.hid (Og.out.only hb (by omega))
    clear hb
    replace Ox1 := Lib.hid ho
    clear ho
    go_wp2_with fail
    refine (netfns.eq_same _ _ r0 _ _ rt0 _ Og.out.reads Ov.out.reads (by omega) (fun s hs => by have h9 := len_le_totL r0 s hs; refine ⟨by omega, fun y hy => ?_⟩; have := planesfns.len_le_totJ s y hy; omega)).mono ?_
    rintro e w16 ⟨rfl, hb⟩
    have s16 : w15.heap.size ≤ w16.heap.size := hb.size
    have n16_0 : w.heap.size < w16.heap.size := by omega
    have n16_1 : w.heap.size + 1 < w16.heap.size := by omega
    have n16_2 : B8 < w16.heap.size := by omega
    have n16_3 : w5.heap.size < w16.heap.size := by omega
    have n16_4 : w7.heap.size < w16.heap.size := by omega
    have n16_5 : w9.heap.size < w16.heap.size := by omega
    replace x0_0 := cell_below hb x0_0 (by omega)
    replace x0_1 := cell_below hb x0_1 (by omega)
    replace x1_0 := cell_below hb x1_0 (by omega)
    replace x1_1 := cell_below hb x1_1 (by omega)
    replace yv_0 := cell_below hb yv_0 (by omega)
    replace yv_1 := cell_below hb yv_1 (by omega)
    replace p0_0 := cell_below hb p0_0 (by omega)
    replace p0_1 := cell_below hb p0_1 (by omega)
    replace p1_0 := cell_below hb p1_0 (by omega)
    replace p1_1 := cell_below hb p1_1 (by omega)
    replace yg_0 := cell_below hb yg_0 (by omega)
    replace yg_1 := cell_below hb yg_1 (by omega)
    have HB16 := Lib.hid (HB15.out.trans (hb.mono (by omega)))
    replace Ov := Lib.hid (Ov.out.below hb)
    replace Ox0 := Lib.hid (Ox0.out.below hb)
    replace Ox1 := Lib.hid (Ox1.out.below hb)
    replace Og := Lib.hid (Og.out.below hb)
    clear hb
    go_wp2_with fail
    clear Ox0
    clear Ox1
    refine (netfns.mark_any (w8.heap.size) (w9.heap.size) _ _ r0 rt0 (1) _ Og.out (by omega) (by omega)).mono ?_
    rintro e w17 ⟨rfl, ho, hb⟩
    have s17 : w16.heap.size ≤ w17.heap.size := hb.size
    have n17_0 : w.heap.size < w17.heap.size := by omega
    have n17_1 : w.heap.size + 1 < w17.heap.size := by omega
    have n17_2 : B8 < w17.heap.size := by omega
    have n17_3 : w5.heap.size < w17.heap.size := by omega
    have n17_4 : w7.heap.size < w17.heap.size := by omega
    have n17_5 : w9.heap.size < w17.heap.size := by omega
    replace x0_0 := hb.cell x0_0 (by omega) (by omega)
    replace x0_1 := hb.cell x0_1 (by omega) (by omega)
    replace x1_0 := hb.cell x1_0 (by omega) (by omega)
    replace x1_1 := hb.cell x1_1 (by omega) (by omega)
    replace yv_0 := hb.cell yv_0 (by omega) (by omega)
    replace yv_1 := hb.cell yv_1 (by omega) (by omega)
    replace p0_0 := hb.cell p0_0 (by omega) (by omega)
    replace p0_1 := hb.cell p0_1 (by omega) (by omega)
    replace p1_0 := hb.cell p1_0 (by omega) (by omega)
    replace p1_1 := hb.cell p1_1 (by omega) (by omega)
    replace yg_0 := hb.cell yg_0 (by omega) (by omega)
    replace yg_1 := hb.cell yg_1 (by omega) (by omega)
    have HB17 := Lib.hid (HB16.out.trans ((hb.below (by omega)).mono (by omega)))
    replace Ov := Lib.hid (Ov.out.only hb (by omega))
    clear hb
    replace Og := Lib.hid ho
    clear ho
    go_wp2_with fail
    refine (netfns.held_any _ _ r0 _ (1) _ Og.out.reads (by omega) (by omega)).mono ?_
    rintro e w18 ⟨rfl, hb⟩
    have s18 : w17.heap.size ≤ w18.heap.size := hb.size
    have n18_0 : w.heap.size < w18.heap.size := by omega
    have n18_1 : w.heap.size + 1 < w18.heap.size := by omega
    have n18_2 : B8 < w18.heap.size := by omega
    have n18_3 : w5.heap.size < w18.heap.size := by omega
    have n18_4 : w7.heap.size < w18.heap.size := by omega
    have n18_5 : w9.heap.size < w18.heap.size := by omega
    replace x0_0 := cell_below hb x0_0 (by omega)
    replace x0_1 := cell_below hb x0_1 (by omega)
    replace x1_0 := cell_below hb x1_0 (by omega)
    replace x1_1 := cell_below hb x1_1 (by omega)
    replace yv_0 := cell_below hb yv_0 (by omega)
    replace yv_1 := cell_below hb yv_1 (by omega)
    replace p0_0 := cell_below hb p0_0 (by omega)
    replace p0_1 := cell_below hb p0_1 (by omega)
    replace p1_0 := cell_below hb p1_0 (by omega)
    replace p1_1 := cell_below hb p1_1 (by omega)
    replace yg_0 := cell_below hb yg_0 (by omega)
    replace yg_1 := cell_below hb yg_1 (by omega)
    have HB18 := Lib.hid (HB17.out.trans (hb.mono (by omega)))
    replace Ov := Lib.hid (Ov.out.below hb)
    replace Og := Lib.hid (Og.out.below hb)
    clear hb
    go_upto_region 31 with fail
    go_cut [15, 16] (fun s6 s7 wx => ∃ (B31 lo31 hi31 : Nat) (ha : Option Addr) (hc : Nat), s6 = .pointer (some ⟨B31, 0, none⟩) ∧ s7 = .bool ok ∧ wx.cell? ⟨B31, 0, none⟩ = some (.int .i64 rt0) ∧ wx.cell? ⟨B31, 1, none⟩ = some (.slice ha r0.length hc) ∧ OwnL lo31 hi31 wx (.slice ha r0.length hc) r0 ∧ hi31 ≤ wx.heap.size ∧ B31 < wx.heap.size ∧ w18.heap.size ≤ B31 ∧ w18.heap.size ≤ lo31 ∧ Below w18.heap.size w18 wx)
    case first =>
      have HBs := Lib.hid (Below.refl w18.heap.size w18)
      go_wp2_with fail
      refine wp_region_noPanic ?_
      refine wp_region_held_drew (S := fun w' => w'.cell? ⟨w.heap.size, 0, none⟩ = some (.int .i64 t0) ∧ w'.cell? ⟨w.heap.size, 1, none⟩ = some (.slice a0 ls0.length c0) ∧ w'.cell? ⟨w.heap.size + 1, 0, none⟩ = some (.int .i64 t1) ∧ w'.cell? ⟨w.heap.size + 1, 1, none⟩ = some (.slice a1 ls1.length c1)) (by kernel_rfl) ?_ (fun hHeld => ?_)
      · exact ⟨x0_0, x0_1, x1_0, x1_1⟩
      have hb : Below w18.heap.size w18 w18.drew := (Below.refl _ _).drew
      generalize hwn : w18.drew = v151 at *
      clear hwn
      have sz151 : w18.heap.size ≤ v151.heap.size := hb.size
      replace x0_0 := cell_keep hb x0_0
      replace x0_1 := cell_keep hb x0_1
      replace x1_0 := cell_keep hb x1_0
      replace x1_1 := cell_keep hb x1_1
      have HBh151 := Lib.hid (HBs.out.trans (hb.mono (by have := HBs.out.size; omega)))
      clear hb
      refine wpAnyH_take (i := 0) (v := ?_) rfl (by kernel_rfl) (by kernel_rfl) (by kernel_rfl) (fun _ _ _ h => h) (Or.inl ⟨by rfl, ?_⟩) (by assumption) ?_
      rotate_left
      · intro w9 hSw; (try dsimp only at hSw); go_simp; try with_reducible rfl
      try simp only [List.getElem_toArray, List.getElem_cons_succ, List.getElem_cons_zero, Act.put, List.setIfInBounds_toArray, List.set_cons_zero, List.set_cons_succ]
      refine wpAnyH_take (i := 2) (v := ?_) rfl (by kernel_rfl) (by kernel_rfl) (by kernel_rfl) (fun _ _ _ h => h) (Or.inl ⟨by rfl, ?_⟩) (by assumption) ?_
      rotate_left
      · intro w9 hSw; (try dsimp only at hSw); go_simp; try with_reducible rfl
      try simp only [List.getElem_toArray, List.getElem_cons_succ, List.getElem_cons_zero, Act.put, List.setIfInBounds_toArray, List.set_cons_zero, List.set_cons_succ]
      refine wpAnyH_ready (rs := [1, 8]) (by kernel_rfl) (by simp) ?_
      refine AllReadyH.cons rfl (fun K hK => ?_) ?_
      · skip
        clear hHeld
        go_simp
        refine (netfns.to_any a0 ls0 c0 t0 _ (HR0.out.below (HB18.out.trans (HBh151.out.mono (by omega)))) (by omega)).mono ?_
        rintro e v152 ⟨v, rfl, ho, hb⟩
        obtain ⟨p0, q0, rfl, _, _, _⟩ := ho.slice
        have sz152 : v151.heap.size ≤ v152.heap.size := hb.size
        replace x0_0 := cell_keep hb x0_0
        replace x0_1 := cell_keep hb x0_1
        replace x1_0 := cell_keep hb x1_0
        replace x1_1 := cell_keep hb x1_1
        have HBh152 := Lib.hid (HBh151.out.trans (hb.mono (by have := HBh151.out.size; omega)))
        clear hb
        have O0 := Lib.hid ho
        clear ho
        refine hK.out _ _ ?_ (fun hHeld => ?_)
        · exact ⟨x0_0, x0_1, x1_0, x1_1⟩
        clear hK K
        try simp only [List.getElem_toArray, List.getElem_cons_succ, List.getElem_cons_zero, Act.put, List.setIfInBounds_toArray, List.set_cons_zero, List.set_cons_succ]
        refine wpAnyH_ready (rs := [3, 8]) (by kernel_rfl) (by simp) ?_
        refine AllReadyH.cons rfl (fun K hK => ?_) ?_
        · skip
          clear hHeld
          go_simp
          refine (netfns.to_any a1 ls1 c1 t1 _ (HR1.out.below (HB18.out.trans (HBh152.out.mono (by omega)))) (by omega)).mono ?_
          rintro e v153 ⟨v, rfl, ho, hb⟩
          obtain ⟨p1, q1, rfl, _, _, _⟩ := ho.slice
          have sz153 : v152.heap.size ≤ v153.heap.size := hb.size
          replace x0_0 := cell_keep hb x0_0
          replace x0_1 := cell_keep hb x0_1
          replace x1_0 := cell_keep hb x1_0
          replace x1_1 := cell_keep hb x1_1
          replace O0 := Lib.hid (O0.out.below hb)
          have HBh153 := Lib.hid (HBh152.out.trans (hb.mono (by have := HBh152.out.size; omega)))
          clear hb
          have O1 := Lib.hid ho
          clear ho
          refine hK.out _ _ ?_ (fun hHeld => ?_)
          · exact ⟨x0_0, x0_1, x1_0, x1_1⟩
          clear hK K
          try simp only [List.getElem_toArray, List.getElem_cons_succ, List.getElem_cons_zero, Act.put, List.setIfInBounds_toArray, List.set_cons_zero, List.set_cons_succ]
          refine wpAnyH_ready (rs := [4, 8]) (by kernel_rfl) (by simp) ?_
          refine AllReadyH.cons rfl (fun K hK => ?_) ?_
          · skip
            clear hHeld
            go_simp
            refine (HImpl.out _ _ _ _ _ O0.out.reads O1.out.reads).mono ?_
            rintro e v154 ⟨v, rfl, ho, hb⟩
            obtain ⟨ha, hc, rfl, _, _, _⟩ := ho.slice
            have sz154 : v153.heap.size ≤ v154.heap.size := hb.size
            replace x0_0 := cell_keep hb x0_0
            replace x0_1 := cell_keep hb x0_1
            replace x1_0 := cell_keep hb x1_0
            replace x1_1 := cell_keep hb x1_1
            have HBh154 := Lib.hid (HBh153.out.trans (hb.mono (by have := HBh153.out.size; omega)))
            clear hb
            have OR31 := Lib.hid ho
            clear ho O0 O1
            refine hK.out _ _ ?_ (fun hHeld => ?_)
            · exact ⟨x0_0, x0_1, x1_0, x1_1⟩
            clear hK K
            try simp only [List.getElem_toArray, List.getElem_cons_succ, List.getElem_cons_zero, Act.put, List.setIfInBounds_toArray, List.set_cons_zero, List.set_cons_succ]
            refine wpAnyH_take (i := 5) (v := ?_) rfl (by kernel_rfl) (by kernel_rfl) (by kernel_rfl) (fun _ _ _ h => h) (Or.inl ⟨by rfl, ?_⟩) (by assumption) ?_
            rotate_left
            · intro w9 hSw; (try dsimp only at hSw); go_simp; try with_reducible rfl
            try simp only [List.getElem_toArray, List.getElem_cons_succ, List.getElem_cons_zero, Act.put, List.setIfInBounds_toArray, List.set_cons_zero, List.set_cons_succ]
            refine wpAnyH_take (i := 6) (v := ?_) rfl (by kernel_rfl) (by kernel_rfl) (by kernel_rfl) (fun _ _ _ h => h) (Or.inl ⟨by rfl, ?_⟩) (by assumption) ?_
            rotate_left
            · intro w9 hSw; (try dsimp only at hSw); go_simp; try with_reducible rfl
            try simp only [List.getElem_toArray, List.getElem_cons_succ, List.getElem_cons_zero, Act.put, List.setIfInBounds_toArray, List.set_cons_zero, List.set_cons_succ]
            refine wpAnyH_take (i := 7) (v := ?_) rfl (by kernel_rfl) (by kernel_rfl) (by kernel_rfl) (fun _ _ _ h => h) (Or.inl ⟨by rfl, ?_⟩) (by assumption) ?_
            rotate_left
            · intro w9 hSw; (try dsimp only at hSw); go_simp; try with_reducible rfl
            try simp only [List.getElem_toArray, List.getElem_cons_succ, List.getElem_cons_zero, Act.put, List.setIfInBounds_toArray, List.set_cons_zero, List.set_cons_succ]
            refine wpAnyH_ready (rs := [8]) (by kernel_rfl) (by simp) ?_
            refine AllReadyH.cons rfl (fun K hK => ?_) AllReadyH.nil
            clear hHeld
            go_simp
            have pv_0 : (v154.alloc (.cells #[.int .i64 0, .slice none 0 0] 44)).cell? ⟨v154.heap.size, 0, none⟩ = some (.int .i64 0) := cell_new _ _ _ rfl rfl
            have pv_f0 : (v154.alloc (.cells #[.int .i64 0, .slice none 0 0] 44)).frozen? ⟨v154.heap.size, 0, none⟩ = false := fro_new _ _ _ rfl
            have pv_1 : (v154.alloc (.cells #[.int .i64 0, .slice none 0 0] 44)).cell? ⟨v154.heap.size, 1, none⟩ = some (.slice none 0 0) := cell_new _ _ _ rfl rfl
            have pv_f1 : (v154.alloc (.cells #[.int .i64 0, .slice none 0 0] 44)).frozen? ⟨v154.heap.size, 1, none⟩ = false := fro_new _ _ _ rfl
            have hb := below_alloc v154 (.cells #[.int .i64 0, .slice none 0 0] 44)
            have lt_pv := size_alloc' v154 (.cells #[.int .i64 0, .slice none 0 0] 44)
            generalize hwn : v154.alloc (.cells #[.int .i64 0, .slice none 0 0] 44) = v155 at *
            clear hwn
            have sz155 : v154.heap.size ≤ v155.heap.size := hb.size
            replace x0_0 := cell_keep hb x0_0
            replace x0_1 := cell_keep hb x0_1
            replace x1_0 := cell_keep hb x1_0
            replace x1_1 := cell_keep hb x1_1
            replace OR31 := Lib.hid (OR31.out.below hb)
            have HBh155 := Lib.hid (HBh154.out.trans (hb.mono (by have := HBh154.out.size; omega)))
            clear hb
            obtain ⟨Bpv, hBpv⟩ : ∃ Bpv : Nat, Bpv = v154.heap.size := ⟨_, rfl⟩
            rw [← hBpv] at pv_0 pv_f0 pv_1 pv_f1 ⊢
            have hBlpv : Bpv ≤ v154.heap.size ∧ v154.heap.size ≤ Bpv := by omega
            clear hBpv
            refine hK.out _ _ ?_ (fun hHeld => ?_)
            · exact ⟨x0_0, x0_1, x1_0, x1_1⟩
            clear hK K
            try simp only [List.getElem_toArray, List.getElem_cons_succ, List.getElem_cons_zero, Act.put, List.setIfInBounds_toArray, List.set_cons_zero, List.set_cons_succ]
            refine wpAnyH_ready (rs := [9]) (by kernel_rfl) (by simp) ?_
            refine AllReadyH.cons rfl (fun K hK => ?_) AllReadyH.nil
            clear hHeld
            go_simp
            have hg : v155.grownBy ((v155.setCell ⟨Bpv, 0, none⟩ (.int .i64 rt0)).setCell ⟨Bpv, 1, none⟩ (.slice ha r0.length hc)) (some (Bpv)) := grown_trans (grown_set v155 (Bpv) 0 (.int .i64 rt0)) (grown_set _ (Bpv) 1 (.slice ha r0.length hc))
            have nx0 : ((v155.setCell ⟨Bpv, 0, none⟩ (.int .i64 rt0)).setCell ⟨Bpv, 1, none⟩ (.slice ha r0.length hc)).cell? ⟨Bpv, 0, none⟩ = some (.int .i64 rt0) := (World.cell?_setCell_other _ _ _ _ (by simp)).trans (World.cell?_setCell_same _ _ _ pv_0)
            have nf0 : ((v155.setCell ⟨Bpv, 0, none⟩ (.int .i64 rt0)).setCell ⟨Bpv, 1, none⟩ (.slice ha r0.length hc)).frozen? ⟨Bpv, 0, none⟩ = false := by simp only [World.frozen?_setCell]; exact pv_f0
            have nx1 : ((v155.setCell ⟨Bpv, 0, none⟩ (.int .i64 rt0)).setCell ⟨Bpv, 1, none⟩ (.slice ha r0.length hc)).cell? ⟨Bpv, 1, none⟩ = some (.slice ha r0.length hc) := World.cell?_setCell_same _ _ _ ((World.cell?_setCell_other _ _ _ _ (by simp)).trans pv_1)
            have nf1 : ((v155.setCell ⟨Bpv, 0, none⟩ (.int .i64 rt0)).setCell ⟨Bpv, 1, none⟩ (.slice ha r0.length hc)).frozen? ⟨Bpv, 1, none⟩ = false := by simp only [World.frozen?_setCell]; exact pv_f1
            clear pv_0 pv_f0 pv_1 pv_f1
            generalize hwn : ((v155.setCell ⟨Bpv, 0, none⟩ (.int .i64 rt0)).setCell ⟨Bpv, 1, none⟩ (.slice ha r0.length hc)) = v156 at *
            clear hwn
            have sz156 : v155.heap.size ≤ v156.heap.size := hg.size
            replace x0_0 := cell_grow hg x0_0 (fun g e => by (have e2 : Bpv = g := by simpa using e); omega)
            replace x0_1 := cell_grow hg x0_1 (fun g e => by (have e2 : Bpv = g := by simpa using e); omega)
            replace x1_0 := cell_grow hg x1_0 (fun g e => by (have e2 : Bpv = g := by simpa using e); omega)
            replace x1_1 := cell_grow hg x1_1 (fun g e => by (have e2 : Bpv = g := by simpa using e); omega)
            replace OR31 := Lib.hid (own_grow hg OR31.out (fun g e => by (have e2 : Bpv = g := by simpa using e); omega))
            have HBh156 := Lib.hid (HBh155.out.grown hg (by have := HBh155.out.size; omega) (fun g e => by (have e2 : Bpv = g := by simpa using e); omega))
            have pv_0 := nx0
            have pv_f0 := nf0
            have pv_1 := nx1
            have pv_f1 := nf1
            clear hg nx0 nf0 nx1 nf1
            refine hK.out _ _ ?_ (fun hHeld => ?_)
            · exact ⟨x0_0, x0_1, x1_0, x1_1⟩
            clear hK K
            try simp only [List.getElem_toArray, List.getElem_cons_succ, List.getElem_cons_zero, Act.put, List.setIfInBounds_toArray, List.set_cons_zero, List.set_cons_succ]
            refine wpAnyH_take (i := 10) (v := ?_) rfl (by kernel_rfl) (by kernel_rfl) (by kernel_rfl) (fun _ _ _ h => h) (Or.inl ⟨by rfl, ?_⟩) (by assumption) ?_
            rotate_left
            · intro w9 hSw; (try dsimp only at hSw); go_simp; try with_reducible rfl
            try simp only [List.getElem_toArray, List.getElem_cons_succ, List.getElem_cons_zero, Act.put, List.setIfInBounds_toArray, List.set_cons_zero, List.set_cons_succ]
            refine wpAnyH_done (by kernel_rfl) ?_ _
            refine NoPanic.normal ?_
            clear hHeld
            go_wp2_with fail
            go_meet
            exact ⟨Bpv, v153.heap.size, v154.heap.size, ha, hc, rfl, rfl, pv_0, pv_1, OR31.out, by omega, by omega, by omega, by omega, HBh156.out⟩
          refine AllReadyH.cons rfl (fun K hK => ?_) AllReadyH.nil
          clear hHeld
          go_simp
          have pv_0 : (v153.alloc (.cells #[.int .i64 0, .slice none 0 0] 44)).cell? ⟨v153.heap.size, 0, none⟩ = some (.int .i64 0) := cell_new _ _ _ rfl rfl
          have pv_f0 : (v153.alloc (.cells #[.int .i64 0, .slice none 0 0] 44)).frozen? ⟨v153.heap.size, 0, none⟩ = false := fro_new _ _ _ rfl
          have pv_1 : (v153.alloc (.cells #[.int .i64 0, .slice none 0 0] 44)).cell? ⟨v153.heap.size, 1, none⟩ = some (.slice none 0 0) := cell_new _ _ _ rfl rfl
          have pv_f1 : (v153.alloc (.cells #[.int .i64 0, .slice none 0 0] 44)).frozen? ⟨v153.heap.size, 1, none⟩ = false := fro_new _ _ _ rfl
          have hb := below_alloc v153 (.cells #[.int .i64 0, .slice none 0 0] 44)
          have lt_pv := size_alloc' v153 (.cells #[.int .i64 0, .slice none 0 0] 44)
          generalize hwn : v153.alloc (.cells #[.int .i64 0, .slice none 0 0] 44) = v154 at *
          clear hwn
          have sz154 : v153.heap.size ≤ v154.heap.size := hb.size
          replace x0_0 := cell_keep hb x0_0
          replace x0_1 := cell_keep hb x0_1
          replace x1_0 := cell_keep hb x1_0
          replace x1_1 := cell_keep hb x1_1
          replace O0 := Lib.hid (O0.out.below hb)
          replace O1 := Lib.hid (O1.out.below hb)
          have HBh154 := Lib.hid (HBh153.out.trans (hb.mono (by have := HBh153.out.size; omega)))
          clear hb
          obtain ⟨Bpv, hBpv⟩ : ∃ Bpv : Nat, Bpv = v153.heap.size := ⟨_, rfl⟩
          rw [← hBpv] at pv_0 pv_f0 pv_1 pv_f1 ⊢
          have hBlpv : Bpv ≤ v153.heap.size ∧ v153.heap.size ≤ Bpv := by omega
          clear hBpv
          refine hK.out _ _ ?_ (fun hHeld => ?_)
          · exact ⟨x0_0, x0_1, x1_0, x1_1⟩
          clear hK K
          try simp only [List.getElem_toArray, List.getElem_cons_succ, List.getElem_cons_zero, Act.put, List.setIfInBounds_toArray, List.set_cons_zero, List.set_cons_succ]
          refine wpAnyH_ready (rs := [4]) (by kernel_rfl) (by simp) ?_
          refine AllReadyH.cons rfl (fun K hK => ?_) AllReadyH.nil
          clear hHeld
          go_simp
          refine (HImpl.out _ _ _ _ _ O0.out.reads O1.out.reads).mono ?_
          rintro e v155 ⟨v, rfl, ho, hb⟩
          obtain ⟨ha, hc, rfl, _, _, _⟩ := ho.slice
          have sz155 : v154.heap.size ≤ v155.heap.size := hb.size
          replace pv_f0 := fro_keep hb pv_0 pv_f0
          replace pv_f1 := fro_keep hb pv_1 pv_f1
          replace x0_0 := cell_keep hb x0_0
          replace x0_1 := cell_keep hb x0_1
          replace x1_0 := cell_keep hb x1_0
          replace x1_1 := cell_keep hb x1_1
          replace pv_0 := cell_keep hb pv_0
          replace pv_1 := cell_keep hb pv_1
          have HBh155 := Lib.hid (HBh154.out.trans (hb.mono (by have := HBh154.out.size; omega)))
          clear hb
          have OR31 := Lib.hid ho
          clear ho O0 O1
          refine hK.out _ _ ?_ (fun hHeld => ?_)
          · exact ⟨x0_0, x0_1, x1_0, x1_1⟩
          clear hK K
          try simp only [List.getElem_toArray, List.getElem_cons_succ, List.getElem_cons_zero, Act.put, List.setIfInBounds_toArray, List.set_cons_zero, List.set_cons_succ]
          refine wpAnyH_take (i := 5) (v := ?_) rfl (by kernel_rfl) (by kernel_rfl) (by kernel_rfl) (fun _ _ _ h => h) (Or.inl ⟨by rfl, ?_⟩) (by assumption) ?_
          rotate_left
          · intro w9 hSw; (try dsimp only at hSw); go_simp; try with_reducible rfl
          try simp only [List.getElem_toArray, List.getElem_cons_succ, List.getElem_cons_zero, Act.put, List.setIfInBounds_toArray, List.set_cons_zero, List.set_cons_succ]
          refine wpAnyH_take (i := 6) (v := ?_) rfl (by kernel_rfl) (by kernel_rfl) (by kernel_rfl) (fun _ _ _ h => h) (Or.inl ⟨by rfl, ?_⟩) (by assumption) ?_
          rotate_left
          · intro w9 hSw; (try dsimp only at hSw); go_simp; try with_reducible rfl
          try simp only [List.getElem_toArray, List.getElem_cons_succ, List.getElem_cons_zero, Act.put, List.setIfInBounds_toArray, List.set_cons_zero, List.set_cons_succ]
          refine wpAnyH_take (i := 7) (v := ?_) rfl (by kernel_rfl) (by kernel_rfl) (by kernel_rfl) (fun _ _ _ h => h) (Or.inl ⟨by rfl, ?_⟩) (by assumption) ?_
          rotate_left
          · intro w9 hSw; (try dsimp only at hSw); go_simp; try with_reducible rfl
          try simp only [List.getElem_toArray, List.getElem_cons_succ, List.getElem_cons_zero, Act.put, List.setIfInBounds_toArray, List.set_cons_zero, List.set_cons_succ]
          refine wpAnyH_ready (rs := [9]) (by kernel_rfl) (by simp) ?_
          refine AllReadyH.cons rfl (fun K hK => ?_) AllReadyH.nil
          clear hHeld
          go_simp
          have hg : v155.grownBy ((v155.setCell ⟨Bpv, 0, none⟩ (.int .i64 rt0)).setCell ⟨Bpv, 1, none⟩ (.slice ha r0.length hc)) (some (Bpv)) := grown_trans (grown_set v155 (Bpv) 0 (.int .i64 rt0)) (grown_set _ (Bpv) 1 (.slice ha r0.length hc))
          have nx0 : ((v155.setCell ⟨Bpv, 0, none⟩ (.int .i64 rt0)).setCell ⟨Bpv, 1, none⟩ (.slice ha r0.length hc)).cell? ⟨Bpv, 0, none⟩ = some (.int .i64 rt0) := (World.cell?_setCell_other _ _ _ _ (by simp)).trans (World.cell?_setCell_same _ _ _ pv_0)
          have nf0 : ((v155.setCell ⟨Bpv, 0, none⟩ (.int .i64 rt0)).setCell ⟨Bpv, 1, none⟩ (.slice ha r0.length hc)).frozen? ⟨Bpv, 0, none⟩ = false := by simp only [World.frozen?_setCell]; exact pv_f0
          have nx1 : ((v155.setCell ⟨Bpv, 0, none⟩ (.int .i64 rt0)).setCell ⟨Bpv, 1, none⟩ (.slice ha r0.length hc)).cell? ⟨Bpv, 1, none⟩ = some (.slice ha r0.length hc) := World.cell?_setCell_same _ _ _ ((World.cell?_setCell_other _ _ _ _ (by simp)).trans pv_1)
          have nf1 : ((v155.setCell ⟨Bpv, 0, none⟩ (.int .i64 rt0)).setCell ⟨Bpv, 1, none⟩ (.slice ha r0.length hc)).frozen? ⟨Bpv, 1, none⟩ = false := by simp only [World.frozen?_setCell]; exact pv_f1
          clear pv_0 pv_f0 pv_1 pv_f1
          generalize hwn : ((v155.setCell ⟨Bpv, 0, none⟩ (.int .i64 rt0)).setCell ⟨Bpv, 1, none⟩ (.slice ha r0.length hc)) = v156 at *
          clear hwn
          have sz156 : v155.heap.size ≤ v156.heap.size := hg.size
          replace x0_0 := cell_grow hg x0_0 (fun g e => by (have e2 : Bpv = g := by simpa using e); omega)
          replace x0_1 := cell_grow hg x0_1 (fun g e => by (have e2 : Bpv = g := by simpa using e); omega)
          replace x1_0 := cell_grow hg x1_0 (fun g e => by (have e2 : Bpv = g := by simpa using e); omega)
          replace x1_1 := cell_grow hg x1_1 (fun g e => by (have e2 : Bpv = g := by simpa using e); omega)
          replace OR31 := Lib.hid (own_grow hg OR31.out (fun g e => by (have e2 : Bpv = g := by simpa using e); omega))
          have HBh156 := Lib.hid (HBh155.out.grown hg (by have := HBh155.out.size; omega) (fun g e => by (have e2 : Bpv = g := by simpa using e); omega))
          have pv_0 := nx0
          have pv_f0 := nf0
          have pv_1 := nx1
          have pv_f1 := nf1
          clear hg nx0 nf0 nx1 nf1
          refine hK.out _ _ ?_ (fun hHeld => ?_)
          · exact ⟨x0_0, x0_1, x1_0, x1_1⟩
          clear hK K
          try simp only [List.getElem_toArray, List.getElem_cons_succ, List.getElem_cons_zero, Act.put, List.setIfInBounds_toArray, List.set_cons_zero, List.set_cons_succ]
          refine wpAnyH_take (i := 10) (v := ?_) rfl (by kernel_rfl) (by kernel_rfl) (by kernel_rfl) (fun _ _ _ h => h) (Or.inl ⟨by rfl, ?_⟩) (by assumption) ?_
          rotate_left
          · intro w9 hSw; (try dsimp only at hSw); go_simp; try with_reducible rfl
          try simp only [List.getElem_toArray, List.getElem_cons_succ, List.getElem_cons_zero, Act.put, List.setIfInBounds_toArray, List.set_cons_zero, List.set_cons_succ]
          refine wpAnyH_done (by kernel_rfl) ?_ _
          refine NoPanic.normal ?_
          clear hHeld
          go_wp2_with fail
          go_meet
          exact ⟨Bpv, v154.heap.size, v155.heap.size, ha, hc, rfl, rfl, pv_0, pv_1, OR31.out, by omega, by omega, by omega, by omega, HBh156.out⟩
        refine AllReadyH.cons rfl (fun K hK => ?_) AllReadyH.nil
        clear hHeld
        go_simp
        have pv_0 : (v152.alloc (.cells #[.int .i64 0, .slice none 0 0] 44)).cell? ⟨v152.heap.size, 0, none⟩ = some (.int .i64 0) := cell_new _ _ _ rfl rfl
        have pv_f0 : (v152.alloc (.cells #[.int .i64 0, .slice none 0 0] 44)).frozen? ⟨v152.heap.size, 0, none⟩ = false := fro_new _ _ _ rfl
        have pv_1 : (v152.alloc (.cells #[.int .i64 0, .slice none 0 0] 44)).cell? ⟨v152.heap.size, 1, none⟩ = some (.slice none 0 0) := cell_new _ _ _ rfl rfl
        have pv_f1 : (v152.alloc (.cells #[.int .i64 0, .slice none 0 0] 44)).frozen? ⟨v152.heap.size, 1, none⟩ = false := fro_new _ _ _ rfl
        have hb := below_alloc v152 (.cells #[.int .i64 0, .slice none 0 0] 44)
        have lt_pv := size_alloc' v152 (.cells #[.int .i64 0, .slice none 0 0] 44)
        generalize hwn : v152.alloc (.cells #[.int .i64 0, .slice none 0 0] 44) = v153 at *
        clear hwn
        have sz153 : v152.heap.size ≤ v153.heap.size := hb.size
        replace x0_0 := cell_keep hb x0_0
        replace x0_1 := cell_keep hb x0_1
        replace x1_0 := cell_keep hb x1_0
        replace x1_1 := cell_keep hb x1_1
        replace O0 := Lib.hid (O0.out.below hb)
        have HBh153 := Lib.hid (HBh152.out.trans (hb.mono (by have := HBh152.out.size; omega)))
        clear hb
        obtain ⟨Bpv, hBpv⟩ : ∃ Bpv : Nat, Bpv = v152.heap.size := ⟨_, rfl⟩
        rw [← hBpv] at pv_0 pv_f0 pv_1 pv_f1 ⊢
        have hBlpv : Bpv ≤ v152.heap.size ∧ v152.heap.size ≤ Bpv := by omega
        clear hBpv
        refine hK.out _ _ ?_ (fun hHeld => ?_)
        · exact ⟨x0_0, x0_1, x1_0, x1_1⟩
        clear hK K
        try simp only [List.getElem_toArray, List.getElem_cons_succ, List.getElem_cons_zero, Act.put, List.setIfInBounds_toArray, List.set_cons_zero, List.set_cons_succ]
        refine wpAnyH_ready (rs := [3]) (by kernel_rfl) (by simp) ?_
        refine AllReadyH.cons rfl (fun K hK => ?_) AllReadyH.nil
        clear hHeld
        go_simp
        refine (netfns.to_any a1 ls1 c1 t1 _ (HR1.out.below (HB18.out.trans (HBh153.out.mono (by omega)))) (by omega)).mono ?_
        rintro e v154 ⟨v, rfl, ho, hb⟩
        obtain ⟨p1, q1, rfl, _, _, _⟩ := ho.slice
        have sz154 : v153.heap.size ≤ v154.heap.size := hb.size
        replace pv_f0 := fro_keep hb pv_0 pv_f0
        replace pv_f1 := fro_keep hb pv_1 pv_f1
        replace x0_0 := cell_keep hb x0_0
        replace x0_1 := cell_keep hb x0_1
        replace x1_0 := cell_keep hb x1_0
        replace x1_1 := cell_keep hb x1_1
        replace pv_0 := cell_keep hb pv_0
        replace pv_1 := cell_keep hb pv_1
        replace O0 := Lib.hid (O0.out.below hb)
        have HBh154 := Lib.hid (HBh153.out.trans (hb.mono (by have := HBh153.out.size; omega)))
        clear hb
        have O1 := Lib.hid ho
        clear ho
        refine hK.out _ _ ?_ (fun hHeld => ?_)
        · exact ⟨x0_0, x0_1, x1_0, x1_1⟩
        clear hK K
        try simp only [List.getElem_toArray, List.getElem_cons_succ, List.getElem_cons_zero, Act.put, List.setIfInBounds_toArray, List.set_cons_zero, List.set_cons_succ]
        refine wpAnyH_ready (rs := [4]) (by kernel_rfl) (by simp) ?_
        refine AllReadyH.cons rfl (fun K hK => ?_) AllReadyH.nil
        clear hHeld
        go_simp
        refine (HImpl.out _ _ _ _ _ O0.out.reads O1.out.reads).mono ?_
        rintro e v155 ⟨v, rfl, ho, hb⟩
        obtain ⟨ha, hc, rfl, _, _, _⟩ := ho.slice
        have sz155 : v154.heap.size ≤ v155.heap.size := hb.size
        replace pv_f0 := fro_keep hb pv_0 pv_f0
        replace pv_f1 := fro_keep hb pv_1 pv_f1
        replace x0_0 := cell_keep hb x0_0
        replace x0_1 := cell_keep hb x0_1
        replace x1_0 := cell_keep hb x1_0
        replace x1_1 := cell_keep hb x1_1
        replace pv_0 := cell_keep hb pv_0
        replace pv_1 := cell_keep hb pv_1
        have HBh155 := Lib.hid (HBh154.out.trans (hb.mono (by have := HBh154.out.size; omega)))
        clear hb
        have OR31 := Lib.hid ho
        clear ho O0 O1
        refine hK.out _ _ ?_ (fun hHeld => ?_)
        · exact ⟨x0_0, x0_1, x1_0, x1_1⟩
        clear hK K
        try simp only [List.getElem_toArray, List.getElem_cons_succ, List.getElem_cons_zero, Act.put, List.setIfInBounds_toArray, List.set_cons_zero, List.set_cons_succ]
        refine wpAnyH_take (i := 5) (v := ?_) rfl (by kernel_rfl) (by kernel_rfl) (by kernel_rfl) (fun _ _ _ h => h) (Or.inl ⟨by rfl, ?_⟩) (by assumption) ?_
        rotate_left
        · intro w9 hSw; (try dsimp only at hSw); go_simp; try with_reducible rfl
        try simp only [List.getElem_toArray, List.getElem_cons_succ, List.getElem_cons_zero, Act.put, List.setIfInBounds_toArray, List.set_cons_zero, List.set_cons_succ]
        refine wpAnyH_take (i := 6) (v := ?_) rfl (by kernel_rfl) (by kernel_rfl) (by kernel_rfl) (fun _ _ _ h => h) (Or.inl ⟨by rfl, ?_⟩) (by assumption) ?_
        rotate_left
        · intro w9 hSw; (try dsimp only at hSw); go_simp; try with_reducible rfl
        try simp only [List.getElem_toArray, List.getElem_cons_succ, List.getElem_cons_zero, Act.put, List.setIfInBounds_toArray, List.set_cons_zero, List.set_cons_succ]
        refine wpAnyH_take (i := 7) (v := ?_) rfl (by kernel_rfl) (by kernel_rfl) (by kernel_rfl) (fun _ _ _ h => h) (Or.inl ⟨by rfl, ?_⟩) (by assumption) ?_
        rotate_left
        · intro w9 hSw; (try dsimp only at hSw); go_simp; try with_reducible rfl
        try simp only [List.getElem_toArray, List.getElem_cons_succ, List.getElem_cons_zero, Act.put, List.setIfInBounds_toArray, List.set_cons_zero, List.set_cons_succ]
        refine wpAnyH_ready (rs := [9]) (by kernel_rfl) (by simp) ?_
        refine AllReadyH.cons rfl (fun K hK => ?_) AllReadyH.nil
        clear hHeld
        go_simp
        have hg : v155.grownBy ((v155.setCell ⟨Bpv, 0, none⟩ (.int .i64 rt0)).setCell ⟨Bpv, 1, none⟩ (.slice ha r0.length hc)) (some (Bpv)) := grown_trans (grown_set v155 (Bpv) 0 (.int .i64 rt0)) (grown_set _ (Bpv) 1 (.slice ha r0.length hc))
        have nx0 : ((v155.setCell ⟨Bpv, 0, none⟩ (.int .i64 rt0)).setCell ⟨Bpv, 1, none⟩ (.slice ha r0.length hc)).cell? ⟨Bpv, 0, none⟩ = some (.int .i64 rt0) := (World.cell?_setCell_other _ _ _ _ (by simp)).trans (World.cell?_setCell_same _ _ _ pv_0)
        have nf0 : ((v155.setCell ⟨Bpv, 0, none⟩ (.int .i64 rt0)).setCell ⟨Bpv, 1, none⟩ (.slice ha r0.length hc)).frozen? ⟨Bpv, 0, none⟩ = false := by simp only [World.frozen?_setCell]; exact pv_f0
        have nx1 : ((v155.setCell ⟨Bpv, 0, none⟩ (.int .i64 rt0)).setCell ⟨Bpv, 1, none⟩ (.slice ha r0.length hc)).cell? ⟨Bpv, 1, none⟩ = some (.slice ha r0.length hc) := World.cell?_setCell_same _ _ _ ((World.cell?_setCell_other _ _ _ _ (by simp)).trans pv_1)
        have nf1 : ((v155.setCell ⟨Bpv, 0, none⟩ (.int .i64 rt0)).setCell ⟨Bpv, 1, none⟩ (.slice ha r0.length hc)).frozen? ⟨Bpv, 1, none⟩ = false := by simp only [World.frozen?_setCell]; exact pv_f1
        clear pv_0 pv_f0 pv_1 pv_f1
        generalize hwn : ((v155.setCell ⟨Bpv, 0, none⟩ (.int .i64 rt0)).setCell ⟨Bpv, 1, none⟩ (.slice ha r0.length hc)) = v156 at *
        clear hwn
        have sz156 : v155.heap.size ≤ v156.heap.size := hg.size
        replace x0_0 := cell_grow hg x0_0 (fun g e => by (have e2 : Bpv = g := by simpa using e); omega)
        replace x0_1 := cell_grow hg x0_1 (fun g e => by (have e2 : Bpv = g := by simpa using e); omega)
        replace x1_0 := cell_grow hg x1_0 (fun g e => by (have e2 : Bpv = g := by simpa using e); omega)
        replace x1_1 := cell_grow hg x1_1 (fun g e => by (have e2 : Bpv = g := by simpa using e); omega)
        replace OR31 := Lib.hid (own_grow hg OR31.out (fun g e => by (have e2 : Bpv = g := by simpa using e); omega))
        have HBh156 := Lib.hid (HBh155.out.grown hg (by have := HBh155.out.size; omega) (fun g e => by (have e2 : Bpv = g := by simpa using e); omega))
        have pv_0 := nx0
        have pv_f0 := nf0
        have pv_1 := nx1
        have pv_f1 := nf1
        clear hg nx0 nf0 nx1 nf1
        refine hK.out _ _ ?_ (fun hHeld => ?_)
        · exact ⟨x0_0, x0_1, x1_0, x1_1⟩
        clear hK K
        try simp only [List.getElem_toArray, List.getElem_cons_succ, List.getElem_cons_zero, Act.put, List.setIfInBounds_toArray, List.set_cons_zero, List.set_cons_succ]
        refine wpAnyH_take (i := 10) (v := ?_) rfl (by kernel_rfl) (by kernel_rfl) (by kernel_rfl) (fun _ _ _ h => h) (Or.inl ⟨by rfl, ?_⟩) (by assumption) ?_
        rotate_left
        · intro w9 hSw; (try dsimp only at hSw); go_simp; try with_reducible rfl
        try simp only [List.getElem_toArray, List.getElem_cons_succ, List.getElem_cons_zero, Act.put, List.setIfInBounds_toArray, List.set_cons_zero, List.set_cons_succ]
        refine wpAnyH_done (by kernel_rfl) ?_ _
        refine NoPanic.normal ?_
        clear hHeld
        go_wp2_with fail
        go_meet
        exact ⟨Bpv, v154.heap.size, v155.heap.size, ha, hc, rfl, rfl, pv_0, pv_1, OR31.out, by omega, by omega, by omega, by omega, HBh156.out⟩
      refine AllReadyH.cons rfl (fun K hK => ?_) AllReadyH.nil
      clear hHeld
      go_simp
      have pv_0 : (v151.alloc (.cells #[.int .i64 0, .slice none 0 0] 44)).cell? ⟨v151.heap.size, 0, none⟩ = some (.int .i64 0) := cell_new _ _ _ rfl rfl
      have pv_f0 : (v151.alloc (.cells #[.int .i64 0, .slice none 0 0] 44)).frozen? ⟨v151.heap.size, 0, none⟩ = false := fro_new _ _ _ rfl
      have pv_1 : (v151.alloc (.cells #[.int .i64 0, .slice none 0 0] 44)).cell? ⟨v151.heap.size, 1, none⟩ = some (.slice none 0 0) := cell_new _ _ _ rfl rfl
      have pv_f1 : (v151.alloc (.cells #[.int .i64 0, .slice none 0 0] 44)).frozen? ⟨v151.heap.size, 1, none⟩ = false := fro_new _ _ _ rfl
      have hb := below_alloc v151 (.cells #[.int .i64 0, .slice none 0 0] 44)
      have lt_pv := size_alloc' v151 (.cells #[.int .i64 0, .slice none 0 0] 44)
      generalize hwn : v151.alloc (.cells #[.int .i64 0, .slice none 0 0] 44) = v152 at *
      clear hwn
      have sz152 : v151.heap.size ≤ v152.heap.size := hb.size
      replace x0_0 := cell_keep hb x0_0
      replace x0_1 := cell_keep hb x0_1
      replace x1_0 := cell_keep hb x1_0
      replace x1_1 := cell_keep hb x1_1
      have HBh152 := Lib.hid (HBh151.out.trans (hb.mono (by have := HBh151.out.size; omega)))
      clear hb
      obtain ⟨Bpv, hBpv⟩ : ∃ Bpv : Nat, Bpv = v151.heap.size := ⟨_, rfl⟩
      rw [← hBpv] at pv_0 pv_f0 pv_1 pv_f1 ⊢
      have hBlpv : Bpv ≤ v151.heap.size ∧ v151.heap.size ≤ Bpv := by omega
      clear hBpv
      refine hK.out _ _ ?_ (fun hHeld => ?_)
      · exact ⟨x0_0, x0_1, x1_0, x1_1⟩
      clear hK K
      try simp only [List.getElem_toArray, List.getElem_cons_succ, List.getElem_cons_zero, Act.put, List.setIfInBounds_toArray, List.set_cons_zero, List.set_cons_succ]
      refine wpAnyH_ready (rs := [1]) (by kernel_rfl) (by simp) ?_
      refine AllReadyH.cons rfl (fun K hK => ?_) AllReadyH.nil
      clear hHeld
      go_simp
      refine (netfns.to_any a0 ls0 c0 t0 _ (HR0.out.below (HB18.out.trans (HBh152.out.mono (by omega)))) (by omega)).mono ?_
      rintro e v153 ⟨v, rfl, ho, hb⟩
      obtain ⟨p0, q0, rfl, _, _, _⟩ := ho.slice
      have sz153 : v152.heap.size ≤ v153.heap.size := hb.size
      replace pv_f0 := fro_keep hb pv_0 pv_f0
      replace pv_f1 := fro_keep hb pv_1 pv_f1
      replace x0_0 := cell_keep hb x0_0
      replace x0_1 := cell_keep hb x0_1
      replace x1_0 := cell_keep hb x1_0
      replace x1_1 := cell_keep hb x1_1
      replace pv_0 := cell_keep hb pv_0
      replace pv_1 := cell_keep hb pv_1
      have HBh153 := Lib.hid (HBh152.out.trans (hb.mono (by have := HBh152.out.size; omega)))
      clear hb
      have O0 := Lib.hid ho
      clear ho
      refine hK.out _ _ ?_ (fun hHeld => ?_)
      · exact ⟨x0_0, x0_1, x1_0, x1_1⟩
      clear hK K
      try simp only [List.getElem_toArray, List.getElem_cons_succ, List.getElem_cons_zero, Act.put, List.setIfInBounds_toArray, List.set_cons_zero, List.set_cons_succ]
      refine wpAnyH_ready (rs := [3]) (by kernel_rfl) (by simp) ?_
      refine AllReadyH.cons rfl (fun K hK => ?_) AllReadyH.nil
      clear hHeld
      go_simp
      refine (netfns.to_any a1 ls1 c1 t1 _ (HR1.out.below (HB18.out.trans (HBh153.out.mono (by omega)))) (by omega)).mono ?_
      rintro e v154 ⟨v, rfl, ho, hb⟩
      obtain ⟨p1, q1, rfl, _, _, _⟩ := ho.slice
      have sz154 : v153.heap.size ≤ v154.heap.size := hb.size
      replace pv_f0 := fro_keep hb pv_0 pv_f0
      replace pv_f1 := fro_keep hb pv_1 pv_f1
      replace x0_0 := cell_keep hb x0_0
      replace x0_1 := cell_keep hb x0_1
      replace x1_0 := cell_keep hb x1_0
      replace x1_1 := cell_keep hb x1_1
      replace pv_0 := cell_keep hb pv_0
      replace pv_1 := cell_keep hb pv_1
      replace O0 := Lib.hid (O0.out.below hb)
      have HBh154 := Lib.hid (HBh153.out.trans (hb.mono (by have := HBh153.out.size; omega)))
      clear hb
      have O1 := Lib.hid ho
      clear ho
      refine hK.out _ _ ?_ (fun hHeld => ?_)
      · exact ⟨x0_0, x0_1, x1_0, x1_1⟩
      clear hK K
      try simp only [List.getElem_toArray, List.getElem_cons_succ, List.getElem_cons_zero, Act.put, List.setIfInBounds_toArray, List.set_cons_zero, List.set_cons_succ]
      refine wpAnyH_ready (rs := [4]) (by kernel_rfl) (by simp) ?_
      refine AllReadyH.cons rfl (fun K hK => ?_) AllReadyH.nil
      clear hHeld
      go_simp
      refine (HImpl.out _ _ _ _ _ O0.out.reads O1.out.reads).mono ?_
      rintro e v155 ⟨v, rfl, ho, hb⟩
      obtain ⟨ha, hc, rfl, _, _, _⟩ := ho.slice
      have sz155 : v154.heap.size ≤ v155.heap.size := hb.size
      replace pv_f0 := fro_keep hb pv_0 pv_f0
      replace pv_f1 := fro_keep hb pv_1 pv_f1
      replace x0_0 := cell_keep hb x0_0
      replace x0_1 := cell_keep hb x0_1
      replace x1_0 := cell_keep hb x1_0
      replace x1_1 := cell_keep hb x1_1
      replace pv_0 := cell_keep hb pv_0
      replace pv_1 := cell_keep hb pv_1
      have HBh155 := Lib.hid (HBh154.out.trans (hb.mono (by have := HBh154.out.size; omega)))
      clear hb
      have OR31 := Lib.hid ho
      clear ho O0 O1
      refine hK.out _ _ ?_ (fun hHeld => ?_)
      · exact ⟨x0_0, x0_1, x1_0, x1_1⟩
      clear hK K
      try simp only [List.getElem_toArray, List.getElem_cons_succ, List.getElem_cons_zero, Act.put, List.setIfInBounds_toArray, List.set_cons_zero, List.set_cons_succ]
      refine wpAnyH_take (i := 5) (v := ?_) rfl (by kernel_rfl) (by kernel_rfl) (by kernel_rfl) (fun _ _ _ h => h) (Or.inl ⟨by rfl, ?_⟩) (by assumption) ?_
      rotate_left
      · intro w9 hSw; (try dsimp only at hSw); go_simp; try with_reducible rfl
      try simp only [List.getElem_toArray, List.getElem_cons_succ, List.getElem_cons_zero, Act.put, List.setIfInBounds_toArray, List.set_cons_zero, List.set_cons_succ]
      refine wpAnyH_take (i := 6) (v := ?_) rfl (by kernel_rfl) (by kernel_rfl) (by kernel_rfl) (fun _ _ _ h => h) (Or.inl ⟨by rfl, ?_⟩) (by assumption) ?_
      rotate_left
      · intro w9 hSw; (try dsimp only at hSw); go_simp; try with_reducible rfl
      try simp only [List.getElem_toArray, List.getElem_cons_succ, List.getElem_cons_zero, Act.put, List.setIfInBounds_toArray, List.set_cons_zero, List.set_cons_succ]
      refine wpAnyH_take (i := 7) (v := ?_) rfl (by kernel_rfl) (by kernel_rfl) (by kernel_rfl) (fun _ _ _ h => h) (Or.inl ⟨by rfl, ?_⟩) (by assumption) ?_
      rotate_left
      · intro w9 hSw; (try dsimp only at hSw); go_simp; try with_reducible rfl
      try simp only [List.getElem_toArray, List.getElem_cons_succ, List.getElem_cons_zero, Act.put, List.setIfInBounds_toArray, List.set_cons_zero, List.set_cons_succ]
      refine wpAnyH_ready (rs := [9]) (by kernel_rfl) (by simp) ?_
      refine AllReadyH.cons rfl (fun K hK => ?_) AllReadyH.nil
      clear hHeld
      go_simp
      have hg : v155.grownBy ((v155.setCell ⟨Bpv, 0, none⟩ (.int .i64 rt0)).setCell ⟨Bpv, 1, none⟩ (.slice ha r0.length hc)) (some (Bpv)) := grown_trans (grown_set v155 (Bpv) 0 (.int .i64 rt0)) (grown_set _ (Bpv) 1 (.slice ha r0.length hc))
      have nx0 : ((v155.setCell ⟨Bpv, 0, none⟩ (.int .i64 rt0)).setCell ⟨Bpv, 1, none⟩ (.slice ha r0.length hc)).cell? ⟨Bpv, 0, none⟩ = some (.int .i64 rt0) := (World.cell?_setCell_other _ _ _ _ (by simp)).trans (World.cell?_setCell_same _ _ _ pv_0)
      have nf0 : ((v155.setCell ⟨Bpv, 0, none⟩ (.int .i64 rt0)).setCell ⟨Bpv, 1, none⟩ (.slice ha r0.length hc)).frozen? ⟨Bpv, 0, none⟩ = false := by simp only [World.frozen?_setCell]; exact pv_f0
      have nx1 : ((v155.setCell ⟨Bpv, 0, none⟩ (.int .i64 rt0)).setCell ⟨Bpv, 1, none⟩ (.slice ha r0.length hc)).cell? ⟨Bpv, 1, none⟩ = some (.slice ha r0.length hc) := World.cell?_setCell_same _ _ _ ((World.cell?_setCell_other _ _ _ _ (by simp)).trans pv_1)
      have nf1 : ((v155.setCell ⟨Bpv, 0, none⟩ (.int .i64 rt0)).setCell ⟨Bpv, 1, none⟩ (.slice ha r0.length hc)).frozen? ⟨Bpv, 1, none⟩ = false := by simp only [World.frozen?_setCell]; exact pv_f1
      clear pv_0 pv_f0 pv_1 pv_f1
      generalize hwn : ((v155.setCell ⟨Bpv, 0, none⟩ (.int .i64 rt0)).setCell ⟨Bpv, 1, none⟩ (.slice ha r0.length hc)) = v156 at *
      clear hwn
      have sz156 : v155.heap.size ≤ v156.heap.size := hg.size
      replace x0_0 := cell_grow hg x0_0 (fun g e => by (have e2 : Bpv = g := by simpa using e); omega)
      replace x0_1 := cell_grow hg x0_1 (fun g e => by (have e2 : Bpv = g := by simpa using e); omega)
      replace x1_0 := cell_grow hg x1_0 (fun g e => by (have e2 : Bpv = g := by simpa using e); omega)
      replace x1_1 := cell_grow hg x1_1 (fun g e => by (have e2 : Bpv = g := by simpa using e); omega)
      replace OR31 := Lib.hid (own_grow hg OR31.out (fun g e => by (have e2 : Bpv = g := by simpa using e); omega))
      have HBh156 := Lib.hid (HBh155.out.grown hg (by have := HBh155.out.size; omega) (fun g e => by (have e2 : Bpv = g := by simpa using e); omega))
      have pv_0 := nx0
      have pv_f0 := nf0
      have pv_1 := nx1
      have pv_f1 := nf1
      clear hg nx0 nf0 nx1 nf1
      refine hK.out _ _ ?_ (fun hHeld => ?_)
      · exact ⟨x0_0, x0_1, x1_0, x1_1⟩
      clear hK K
      try simp only [List.getElem_toArray, List.getElem_cons_succ, List.getElem_cons_zero, Act.put, List.setIfInBounds_toArray, List.set_cons_zero, List.set_cons_succ]
      refine wpAnyH_take (i := 10) (v := ?_) rfl (by kernel_rfl) (by kernel_rfl) (by kernel_rfl) (fun _ _ _ h => h) (Or.inl ⟨by rfl, ?_⟩) (by assumption) ?_
      rotate_left
      · intro w9 hSw; (try dsimp only at hSw); go_simp; try with_reducible rfl
      try simp only [List.getElem_toArray, List.getElem_cons_succ, List.getElem_cons_zero, Act.put, List.setIfInBounds_toArray, List.set_cons_zero, List.set_cons_succ]
      refine wpAnyH_done (by kernel_rfl) ?_ _
      refine NoPanic.normal ?_
      clear hHeld
      go_wp2_with fail
      go_meet
      exact ⟨Bpv, v154.heap.size, v155.heap.size, ha, hc, rfl, rfl, pv_0, pv_1, OR31.out, by omega, by omega, by omega, by omega, HBh156.out⟩
    case rest =>
      obtain ⟨w20, hwn⟩ : ∃ W9, W9 = wc := ⟨_, rfl⟩
      subst hwn
      obtain ⟨B31, lo31, hi31, ha, hc, rfl, rfl, yh_0, yh_1, hov, k311, k312, k313, k314, hb⟩ := hcut
      have s19 : w18.heap.size ≤ w20.heap.size := hb.size
      have n19_0 : w.heap.size < w20.heap.size := by omega
      have n19_1 : w.heap.size + 1 < w20.heap.size := by omega
      have n19_2 : B8 < w20.heap.size := by omega
      have n19_3 : w5.heap.size < w20.heap.size := by omega
      have n19_4 : w7.heap.size < w20.heap.size := by omega
      have n19_5 : w9.heap.size < w20.heap.size := by omega
      replace x0_0 := cell_below hb x0_0 (by omega)
      replace x0_1 := cell_below hb x0_1 (by omega)
      replace x1_0 := cell_below hb x1_0 (by omega)
      replace x1_1 := cell_below hb x1_1 (by omega)
      replace yv_0 := cell_below hb yv_0 (by omega)
      replace yv_1 := cell_below hb yv_1 (by omega)
      replace p0_0 := cell_below hb p0_0 (by omega)
      replace p0_1 := cell_below hb p0_1 (by omega)
      replace p1_0 := cell_below hb p1_0 (by omega)
      replace p1_1 := cell_below hb p1_1 (by omega)
      replace yg_0 := cell_below hb yg_0 (by omega)
      replace yg_1 := cell_below hb yg_1 (by omega)
      have HB19 := Lib.hid (HB18.out.trans (hb.mono (by omega)))
      replace Ov := Lib.hid (Ov.out.below hb)
      replace Og := Lib.hid (Og.out.below hb)
      clear hb
      have HB20 := HB19
      have Oh := Lib.hid hov
      clear hov
      go_wp2_with fail
      refine (netfns.eq_same _ _ r0 _ _ rt0 _ Oh.out.reads Ov.out.reads (by omega) (fun s hs => by have h9 := len_le_totL r0 s hs; refine ⟨by omega, fun y hy => ?_⟩; have := planesfns.len_le_totJ s y hy; omega)).mono ?_
      rintro e w21 ⟨rfl, hb⟩
      have s21 : w20.heap.size ≤ w21.heap.size := hb.size
      have n21_0 : w.heap.size < w21.heap.size := by omega
      have n21_1 : w.heap.size + 1 < w21.heap.size := by omega
      have n21_2 : B8 < w21.heap.size := by omega
      have n21_3 : w5.heap.size < w21.heap.size := by omega
      have n21_4 : w7.heap.size < w21.heap.size := by omega
      have n21_5 : w9.heap.size < w21.heap.size := by omega
      have n21_6 : B31 < w21.heap.size := by omega
      replace x0_0 := cell_below hb x0_0 (by omega)
      replace x0_1 := cell_below hb x0_1 (by omega)
      replace x1_0 := cell_below hb x1_0 (by omega)
      replace x1_1 := cell_below hb x1_1 (by omega)
      replace yv_0 := cell_below hb yv_0 (by omega)
      replace yv_1 := cell_below hb yv_1 (by omega)
      replace p0_0 := cell_below hb p0_0 (by omega)
      replace p0_1 := cell_below hb p0_1 (by omega)
      replace p1_0 := cell_below hb p1_0 (by omega)
      replace p1_1 := cell_below hb p1_1 (by omega)
      replace yg_0 := cell_below hb yg_0 (by omega)
      replace yg_1 := cell_below hb yg_1 (by omega)
      replace yh_0 := cell_below hb yh_0 (by omega)
      replace yh_1 := cell_below hb yh_1 (by omega)
      have HB21 := Lib.hid (HB20.out.trans (hb.mono (by omega)))
      replace Ov := Lib.hid (Ov.out.below hb)
      replace Og := Lib.hid (Og.out.below hb)
      replace Oh := Lib.hid (Oh.out.below hb)
      clear hb
      go_wp2_with fail
      refine (netfns.held_any _ _ r0 _ (1) _ Og.out.reads (by omega) (by omega)).mono ?_
      rintro e w22 ⟨rfl, hb⟩
      have s22 : w21.heap.size ≤ w22.heap.size := hb.size
      have n22_0 : w.heap.size < w22.heap.size := by omega
      have n22_1 : w.heap.size + 1 < w22.heap.size := by omega
      have n22_2 : B8 < w22.heap.size := by omega
      have n22_3 : w5.heap.size < w22.heap.size := by omega
      have n22_4 : w7.heap.size < w22.heap.size := by omega
      have n22_5 : w9.heap.size < w22.heap.size := by omega
      have n22_6 : B31 < w22.heap.size := by omega
      replace x0_0 := cell_below hb x0_0 (by omega)
      replace x0_1 := cell_below hb x0_1 (by omega)
      replace x1_0 := cell_below hb x1_0 (by omega)
      replace x1_1 := cell_below hb x1_1 (by omega)
      replace yv_0 := cell_below hb yv_0 (by omega)
      replace yv_1 := cell_below hb yv_1 (by omega)
      replace p0_0 := cell_below hb p0_0 (by omega)
      replace p0_1 := cell_below hb p0_1 (by omega)
      replace p1_0 := cell_below hb p1_0 (by omega)
      replace p1_1 := cell_below hb p1_1 (by omega)
      replace yg_0 := cell_below hb yg_0 (by omega)
      replace yg_1 := cell_below hb yg_1 (by omega)
      replace yh_0 := cell_below hb yh_0 (by omega)
      replace yh_1 := cell_below hb yh_1 (by omega)
      have HB22 := Lib.hid (HB21.out.trans (hb.mono (by omega)))
      replace Ov := Lib.hid (Ov.out.below hb)
      replace Og := Lib.hid (Og.out.below hb)
      replace Oh := Lib.hid (Oh.out.below hb)
      clear hb
      go_wp2_with fail
      go_ret
      exact ⟨rfl, HB22.out⟩
end Go.Proofs.Ytkbcofgigfnfaab.fnExactJoinNetsw
