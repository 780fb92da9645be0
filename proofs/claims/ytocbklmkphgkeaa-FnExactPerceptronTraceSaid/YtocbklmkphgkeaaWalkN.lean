/- The walks of the program's runs of perceptrons. -/
import Derived.Test.YtocbklmkphgkeaaWalkR
namespace Go.Proofs.Ytocbklmkphgkeaa.walkr
open Go.RowKit own own1 pp nums dots fill step range kept samplest samplesv planes runp made
set_option linter.unusedVariables false
set_option linter.unusedSimpArgs false
attribute [local go_sem ↓] Go.wp_at_zero Go.wp_at_succ

theorem own_grown {lo hi : Nat} {W W3 : World} {O : Obj} {v u : Value} {zs : List Int} (h : OwnI lo hi W v zs) (hg : (W.alloc O).grownBy W3 u.ownBlock) (ha : ∀ g, v.ownBlock = some g → u.ownBlock ≠ some g) : OwnI lo hi W3 v zs :=
  h.block fun g e => grown_block hg g (h.lt e).2.2 (ha g e)
set_option maxRecDepth 100000 in
set_option maxHeartbeats 4000000 in
theorem run_no1 (a : Option Addr) (rows : List (List Int)) (c : Nat) (a' : Option Addr) (zs : List Int) (c' : Nat) (r : Int) (w : World) (hr : grid.Reads w a rows) (hz : ints.Reads .i64 w a' zs) (hn : rows.length ≤ 1048576) (hk : zs.length ≤ 1048576) (hm : ∀ r ∈ rows, r.length ≤ 1048576) (h : Hid (margin.hpB rows zs = false)) :
    Calls Try.prog 112 #[.agg #[.slice a rows.length c, .slice a' zs.length c'], .int .i64 r, .func (.func 113) #[] #[]] w (RetPIB [] 0 [] false w) := by
  have HMM := Lib.hid hm
  clear hm
  have Hhr := Lib.hid hr
  have Hhz := Lib.hid hz
  clear hr hz
  go_enter Try.func112, Try.ntmps112
  go_wp2_with fail
  have x0_0 : (w.alloc (.cells #[.slice a rows.length c, .slice a' zs.length c'] 27)).cell? ⟨w.heap.size, 0, none⟩ = some (.slice a rows.length c) := cell_new _ _ _ (by simp) rfl
  have x0_1 : (w.alloc (.cells #[.slice a rows.length c, .slice a' zs.length c'] 27)).cell? ⟨w.heap.size, 1, none⟩ = some (.slice a' zs.length c') := cell_new _ _ _ (by simp) rfl
  have HB0 := Lib.hid (below_alloc w (.cells #[.slice a rows.length c, .slice a' zs.length c'] 27))
  replace x0_0 := cell_old (.cells #[.slice none 0 0, .int .i64 0] 46) x0_0
  replace x0_1 := cell_old (.cells #[.slice none 0 0, .int .i64 0] 46) x0_1
  have x1_0 : ((w.alloc (.cells #[.slice a rows.length c, .slice a' zs.length c'] 27)).alloc (.cells #[.slice none 0 0, .int .i64 0] 46)).cell? ⟨w.heap.size + 1, 0, none⟩ = some (.slice none 0 0) := cell_new _ _ _ (by simp) rfl
  have x1_1 : ((w.alloc (.cells #[.slice a rows.length c, .slice a' zs.length c'] 27)).alloc (.cells #[.slice none 0 0, .int .i64 0] 46)).cell? ⟨w.heap.size + 1, 1, none⟩ = some (.int .i64 0) := cell_new _ _ _ (by simp) rfl
  have f1_0 : ((w.alloc (.cells #[.slice a rows.length c, .slice a' zs.length c'] 27)).alloc (.cells #[.slice none 0 0, .int .i64 0] 46)).frozen? ⟨w.heap.size + 1, 0, none⟩ = false := fro_new _ _ _ (by simp)
  have f1_1 : ((w.alloc (.cells #[.slice a rows.length c, .slice a' zs.length c'] 27)).alloc (.cells #[.slice none 0 0, .int .i64 0] 46)).frozen? ⟨w.heap.size + 1, 1, none⟩ = false := fro_new _ _ _ (by simp)
  replace HB0 := Lib.hid (HB0.out.alloc (by simp) (.cells #[.slice none 0 0, .int .i64 0] 46))
  have s0 : w.heap.size + 2 ≤ ((w.alloc (.cells #[.slice a rows.length c, .slice a' zs.length c'] 27)).alloc (.cells #[.slice none 0 0, .int .i64 0] 46)).heap.size := by simp
  generalize hw : ((w.alloc (.cells #[.slice a rows.length c, .slice a' zs.length c'] 27)).alloc (.cells #[.slice none 0 0, .int .i64 0] 46)) = w0 at *
  clear hw
  have n0_0 : w.heap.size < w0.heap.size := by omega
  have n0_1 : w.heap.size + 1 < w0.heap.size := by omega
  refine (margin.impl_hasPoints a rows c a' zs c' _ (Hhr.out.below HB0.out) (Hhz.out.below HB0.out) hn hk HMM.out false h).mono ?_
  rintro e w1 ⟨rfl, hb⟩
  have s1 : w0.heap.size ≤ w1.heap.size := hb.size
  have n1_0 : w.heap.size < w1.heap.size := by omega
  have n1_1 : w.heap.size + 1 < w1.heap.size := by omega
  replace x0_0 := cell_below hb x0_0 (by omega)
  replace x0_1 := cell_below hb x0_1 (by omega)
  replace x1_0 := cell_below hb x1_0 (by omega)
  replace x1_1 := cell_below hb x1_1 (by omega)
  replace f1_0 := fro_below hb f1_0 (by omega)
  replace f1_1 := fro_below hb f1_1 (by omega)
  have HB1 := Lib.hid (HB0.out.trans (hb.mono (by omega)))
  clear hb
  go_wp2_with fail
  have q0 : (((w1.setCell ⟨w.heap.size + 1, 0, none⟩ (.slice none 0 0)).setCell ⟨w.heap.size + 1, 1, none⟩ (.int .i64 0)).alloc (.cells #[] 3)).cell? ⟨w.heap.size + 1, 0, none⟩ = some (.slice none 0 0) := cell_old _ ((World.cell?_setCell_other _ _ _ _ (by simp)).trans (World.cell?_setCell_same _ _ _ x1_0))
  have q1 : (((w1.setCell ⟨w.heap.size + 1, 0, none⟩ (.slice none 0 0)).setCell ⟨w.heap.size + 1, 1, none⟩ (.int .i64 0)).alloc (.cells #[] 3)).cell? ⟨w.heap.size + 1, 1, none⟩ = some (.int .i64 0) := cell_old _ (World.cell?_setCell_same _ _ _ ((World.cell?_setCell_other _ _ _ _ (by simp)).trans x1_1))
  have hx9 : ((w1.setCell ⟨w.heap.size + 1, 0, none⟩ (.slice none 0 0)).setCell ⟨w.heap.size + 1, 1, none⟩ (.int .i64 0)).heap.size = w1.heap.size := by rw [size_set, size_set]
  have ho9 := own_empty ((w1.setCell ⟨w.heap.size + 1, 0, none⟩ (.slice none 0 0)).setCell ⟨w.heap.size + 1, 1, none⟩ (.int .i64 0))
  rw [hx9] at ho9
  have HF9 := Lib.hid (show RetPIB [] 0 [] false w (.returned (.tuple #[.agg #[.slice none 0 0, .int .i64 0], .slice (some ⟨w1.heap.size, 0, none⟩) 0 0, .bool false])) (((w1.setCell ⟨w.heap.size + 1, 0, none⟩ (.slice none 0 0)).setCell ⟨w.heap.size + 1, 1, none⟩ (.int .i64 0)).alloc (.cells #[] 3)) from ⟨_, _, rfl, OwnI.nil _ _ _, ho9.mono (by omega) (by simp [size_set]), (fun g e => by simp [Value.ownBlock] at e), ((HB1.out.setCell (by simp) _).setCell (by simp) _).alloc (by rw [hx9]; omega) _⟩)
  refine bodyPost_ret (v := .tuple #[.agg #[.slice none 0 0, .int .i64 0], .slice (some ⟨w1.heap.size, 0, none⟩) 0 0, .bool false]) (by simp [results, Try.results112, go_sem, q0, q1]) rfl HF9.out
set_option maxRecDepth 100000 in
set_option maxHeartbeats 4000000 in
theorem run_no2 (a : Option Addr) (rows : List (List Int)) (c : Nat) (a' : Option Addr) (zs : List Int) (c' : Nat) (r : Int) (w : World) (hr : grid.Reads w a rows) (hz : ints.Reads .i64 w a' zs) (hn : rows.length ≤ 1048576) (hk : zs.length ≤ 1048576) (hm : ∀ r ∈ rows, r.length ≤ 1048576) (h1 : Hid (margin.hpB rows zs = true)) (h : r < 1) :
    Calls Try.prog 112 #[.agg #[.slice a rows.length c, .slice a' zs.length c'], .int .i64 r, .func (.func 113) #[] #[]] w (RetPIB [] 0 [] false w) := by
  have HMM := Lib.hid hm
  clear hm
  have g1 : decide (r < 1) = true := decide_eq_true h
  have Hhr := Lib.hid hr
  have Hhz := Lib.hid hz
  clear hr hz
  go_enter Try.func112, Try.ntmps112
  go_wp2_with fail
  have x0_0 : (w.alloc (.cells #[.slice a rows.length c, .slice a' zs.length c'] 27)).cell? ⟨w.heap.size, 0, none⟩ = some (.slice a rows.length c) := cell_new _ _ _ (by simp) rfl
  have x0_1 : (w.alloc (.cells #[.slice a rows.length c, .slice a' zs.length c'] 27)).cell? ⟨w.heap.size, 1, none⟩ = some (.slice a' zs.length c') := cell_new _ _ _ (by simp) rfl
  have HB0 := Lib.hid (below_alloc w (.cells #[.slice a rows.length c, .slice a' zs.length c'] 27))
  replace x0_0 := cell_old (.cells #[.slice none 0 0, .int .i64 0] 46) x0_0
  replace x0_1 := cell_old (.cells #[.slice none 0 0, .int .i64 0] 46) x0_1
  have x1_0 : ((w.alloc (.cells #[.slice a rows.length c, .slice a' zs.length c'] 27)).alloc (.cells #[.slice none 0 0, .int .i64 0] 46)).cell? ⟨w.heap.size + 1, 0, none⟩ = some (.slice none 0 0) := cell_new _ _ _ (by simp) rfl
  have x1_1 : ((w.alloc (.cells #[.slice a rows.length c, .slice a' zs.length c'] 27)).alloc (.cells #[.slice none 0 0, .int .i64 0] 46)).cell? ⟨w.heap.size + 1, 1, none⟩ = some (.int .i64 0) := cell_new _ _ _ (by simp) rfl
  have f1_0 : ((w.alloc (.cells #[.slice a rows.length c, .slice a' zs.length c'] 27)).alloc (.cells #[.slice none 0 0, .int .i64 0] 46)).frozen? ⟨w.heap.size + 1, 0, none⟩ = false := fro_new _ _ _ (by simp)
  have f1_1 : ((w.alloc (.cells #[.slice a rows.length c, .slice a' zs.length c'] 27)).alloc (.cells #[.slice none 0 0, .int .i64 0] 46)).frozen? ⟨w.heap.size + 1, 1, none⟩ = false := fro_new _ _ _ (by simp)
  replace HB0 := Lib.hid (HB0.out.alloc (by simp) (.cells #[.slice none 0 0, .int .i64 0] 46))
  have s0 : w.heap.size + 2 ≤ ((w.alloc (.cells #[.slice a rows.length c, .slice a' zs.length c'] 27)).alloc (.cells #[.slice none 0 0, .int .i64 0] 46)).heap.size := by simp
  generalize hw : ((w.alloc (.cells #[.slice a rows.length c, .slice a' zs.length c'] 27)).alloc (.cells #[.slice none 0 0, .int .i64 0] 46)) = w0 at *
  clear hw
  have n0_0 : w.heap.size < w0.heap.size := by omega
  have n0_1 : w.heap.size + 1 < w0.heap.size := by omega
  refine (margin.impl_hasPoints a rows c a' zs c' _ (Hhr.out.below HB0.out) (Hhz.out.below HB0.out) hn hk HMM.out true h1).mono ?_
  rintro e w1 ⟨rfl, hb⟩
  have s1 : w0.heap.size ≤ w1.heap.size := hb.size
  have n1_0 : w.heap.size < w1.heap.size := by omega
  have n1_1 : w.heap.size + 1 < w1.heap.size := by omega
  replace x0_0 := cell_below hb x0_0 (by omega)
  replace x0_1 := cell_below hb x0_1 (by omega)
  replace x1_0 := cell_below hb x1_0 (by omega)
  replace x1_1 := cell_below hb x1_1 (by omega)
  replace f1_0 := fro_below hb f1_0 (by omega)
  replace f1_1 := fro_below hb f1_1 (by omega)
  have HB1 := Lib.hid (HB0.out.trans (hb.mono (by omega)))
  clear hb
  go_wp2_with fail
  have q0 : (((w1.setCell ⟨w.heap.size + 1, 0, none⟩ (.slice none 0 0)).setCell ⟨w.heap.size + 1, 1, none⟩ (.int .i64 0)).alloc (.cells #[] 3)).cell? ⟨w.heap.size + 1, 0, none⟩ = some (.slice none 0 0) := cell_old _ ((World.cell?_setCell_other _ _ _ _ (by simp)).trans (World.cell?_setCell_same _ _ _ x1_0))
  have q1 : (((w1.setCell ⟨w.heap.size + 1, 0, none⟩ (.slice none 0 0)).setCell ⟨w.heap.size + 1, 1, none⟩ (.int .i64 0)).alloc (.cells #[] 3)).cell? ⟨w.heap.size + 1, 1, none⟩ = some (.int .i64 0) := cell_old _ (World.cell?_setCell_same _ _ _ ((World.cell?_setCell_other _ _ _ _ (by simp)).trans x1_1))
  have hx9 : ((w1.setCell ⟨w.heap.size + 1, 0, none⟩ (.slice none 0 0)).setCell ⟨w.heap.size + 1, 1, none⟩ (.int .i64 0)).heap.size = w1.heap.size := by rw [size_set, size_set]
  have ho9 := own_empty ((w1.setCell ⟨w.heap.size + 1, 0, none⟩ (.slice none 0 0)).setCell ⟨w.heap.size + 1, 1, none⟩ (.int .i64 0))
  rw [hx9] at ho9
  have HF9 := Lib.hid (show RetPIB [] 0 [] false w (.returned (.tuple #[.agg #[.slice none 0 0, .int .i64 0], .slice (some ⟨w1.heap.size, 0, none⟩) 0 0, .bool false])) (((w1.setCell ⟨w.heap.size + 1, 0, none⟩ (.slice none 0 0)).setCell ⟨w.heap.size + 1, 1, none⟩ (.int .i64 0)).alloc (.cells #[] 3)) from ⟨_, _, rfl, OwnI.nil _ _ _, ho9.mono (by omega) (by simp [size_set]), (fun g e => by simp [Value.ownBlock] at e), ((HB1.out.setCell (by simp) _).setCell (by simp) _).alloc (by rw [hx9]; omega) _⟩)
  refine bodyPost_ret (v := .tuple #[.agg #[.slice none 0 0, .int .i64 0], .slice (some ⟨w1.heap.size, 0, none⟩) 0 0, .bool false]) (by simp [results, Try.results112, go_sem, q0, q1]) rfl HF9.out
set_option maxRecDepth 100000 in
set_option maxHeartbeats 4000000 in
theorem run_no3 (a : Option Addr) (rows : List (List Int)) (c : Nat) (a' : Option Addr) (zs : List Int) (c' : Nat) (r : Int) (w : World) (hr : grid.Reads w a rows) (hz : ints.Reads .i64 w a' zs) (hn : rows.length ≤ 1048576) (hk : zs.length ≤ 1048576) (hm : ∀ r ∈ rows, r.length ≤ 1048576) (h1 : Hid (margin.hpB rows zs = true)) (h0 : ¬ r < 1) (h : 12 < r) :
    Calls Try.prog 112 #[.agg #[.slice a rows.length c, .slice a' zs.length c'], .int .i64 r, .func (.func 113) #[] #[]] w (RetPIB [] 0 [] false w) := by
  have HMM := Lib.hid hm
  clear hm
  have g1 : decide (r < 1) = false := decide_eq_false h0
  have g2 : decide (12 < r) = true := decide_eq_true h
  have Hhr := Lib.hid hr
  have Hhz := Lib.hid hz
  clear hr hz
  go_enter Try.func112, Try.ntmps112
  go_wp2_with fail
  have x0_0 : (w.alloc (.cells #[.slice a rows.length c, .slice a' zs.length c'] 27)).cell? ⟨w.heap.size, 0, none⟩ = some (.slice a rows.length c) := cell_new _ _ _ (by simp) rfl
  have x0_1 : (w.alloc (.cells #[.slice a rows.length c, .slice a' zs.length c'] 27)).cell? ⟨w.heap.size, 1, none⟩ = some (.slice a' zs.length c') := cell_new _ _ _ (by simp) rfl
  have HB0 := Lib.hid (below_alloc w (.cells #[.slice a rows.length c, .slice a' zs.length c'] 27))
  replace x0_0 := cell_old (.cells #[.slice none 0 0, .int .i64 0] 46) x0_0
  replace x0_1 := cell_old (.cells #[.slice none 0 0, .int .i64 0] 46) x0_1
  have x1_0 : ((w.alloc (.cells #[.slice a rows.length c, .slice a' zs.length c'] 27)).alloc (.cells #[.slice none 0 0, .int .i64 0] 46)).cell? ⟨w.heap.size + 1, 0, none⟩ = some (.slice none 0 0) := cell_new _ _ _ (by simp) rfl
  have x1_1 : ((w.alloc (.cells #[.slice a rows.length c, .slice a' zs.length c'] 27)).alloc (.cells #[.slice none 0 0, .int .i64 0] 46)).cell? ⟨w.heap.size + 1, 1, none⟩ = some (.int .i64 0) := cell_new _ _ _ (by simp) rfl
  have f1_0 : ((w.alloc (.cells #[.slice a rows.length c, .slice a' zs.length c'] 27)).alloc (.cells #[.slice none 0 0, .int .i64 0] 46)).frozen? ⟨w.heap.size + 1, 0, none⟩ = false := fro_new _ _ _ (by simp)
  have f1_1 : ((w.alloc (.cells #[.slice a rows.length c, .slice a' zs.length c'] 27)).alloc (.cells #[.slice none 0 0, .int .i64 0] 46)).frozen? ⟨w.heap.size + 1, 1, none⟩ = false := fro_new _ _ _ (by simp)
  replace HB0 := Lib.hid (HB0.out.alloc (by simp) (.cells #[.slice none 0 0, .int .i64 0] 46))
  have s0 : w.heap.size + 2 ≤ ((w.alloc (.cells #[.slice a rows.length c, .slice a' zs.length c'] 27)).alloc (.cells #[.slice none 0 0, .int .i64 0] 46)).heap.size := by simp
  generalize hw : ((w.alloc (.cells #[.slice a rows.length c, .slice a' zs.length c'] 27)).alloc (.cells #[.slice none 0 0, .int .i64 0] 46)) = w0 at *
  clear hw
  have n0_0 : w.heap.size < w0.heap.size := by omega
  have n0_1 : w.heap.size + 1 < w0.heap.size := by omega
  refine (margin.impl_hasPoints a rows c a' zs c' _ (Hhr.out.below HB0.out) (Hhz.out.below HB0.out) hn hk HMM.out true h1).mono ?_
  rintro e w1 ⟨rfl, hb⟩
  have s1 : w0.heap.size ≤ w1.heap.size := hb.size
  have n1_0 : w.heap.size < w1.heap.size := by omega
  have n1_1 : w.heap.size + 1 < w1.heap.size := by omega
  replace x0_0 := cell_below hb x0_0 (by omega)
  replace x0_1 := cell_below hb x0_1 (by omega)
  replace x1_0 := cell_below hb x1_0 (by omega)
  replace x1_1 := cell_below hb x1_1 (by omega)
  replace f1_0 := fro_below hb f1_0 (by omega)
  replace f1_1 := fro_below hb f1_1 (by omega)
  have HB1 := Lib.hid (HB0.out.trans (hb.mono (by omega)))
  clear hb
  go_wp2_with fail
  have q0 : (((w1.setCell ⟨w.heap.size + 1, 0, none⟩ (.slice none 0 0)).setCell ⟨w.heap.size + 1, 1, none⟩ (.int .i64 0)).alloc (.cells #[] 3)).cell? ⟨w.heap.size + 1, 0, none⟩ = some (.slice none 0 0) := cell_old _ ((World.cell?_setCell_other _ _ _ _ (by simp)).trans (World.cell?_setCell_same _ _ _ x1_0))
  have q1 : (((w1.setCell ⟨w.heap.size + 1, 0, none⟩ (.slice none 0 0)).setCell ⟨w.heap.size + 1, 1, none⟩ (.int .i64 0)).alloc (.cells #[] 3)).cell? ⟨w.heap.size + 1, 1, none⟩ = some (.int .i64 0) := cell_old _ (World.cell?_setCell_same _ _ _ ((World.cell?_setCell_other _ _ _ _ (by simp)).trans x1_1))
  have hx9 : ((w1.setCell ⟨w.heap.size + 1, 0, none⟩ (.slice none 0 0)).setCell ⟨w.heap.size + 1, 1, none⟩ (.int .i64 0)).heap.size = w1.heap.size := by rw [size_set, size_set]
  have ho9 := own_empty ((w1.setCell ⟨w.heap.size + 1, 0, none⟩ (.slice none 0 0)).setCell ⟨w.heap.size + 1, 1, none⟩ (.int .i64 0))
  rw [hx9] at ho9
  have HF9 := Lib.hid (show RetPIB [] 0 [] false w (.returned (.tuple #[.agg #[.slice none 0 0, .int .i64 0], .slice (some ⟨w1.heap.size, 0, none⟩) 0 0, .bool false])) (((w1.setCell ⟨w.heap.size + 1, 0, none⟩ (.slice none 0 0)).setCell ⟨w.heap.size + 1, 1, none⟩ (.int .i64 0)).alloc (.cells #[] 3)) from ⟨_, _, rfl, OwnI.nil _ _ _, ho9.mono (by omega) (by simp [size_set]), (fun g e => by simp [Value.ownBlock] at e), ((HB1.out.setCell (by simp) _).setCell (by simp) _).alloc (by rw [hx9]; omega) _⟩)
  refine bodyPost_ret (v := .tuple #[.agg #[.slice none 0 0, .int .i64 0], .slice (some ⟨w1.heap.size, 0, none⟩) 0 0, .bool false]) (by simp [results, Try.results112, go_sem, q0, q1]) rfl HF9.out
set_option maxRecDepth 100000 in
set_option maxHeartbeats 4000000 in
theorem run_main (a : Option Addr) (rows : List (List Int)) (c : Nat) (a' : Option Addr) (zs : List Int) (c' : Nat) (r : Int) (w : World) (hr : grid.Reads w a rows) (hz : ints.Reads .i64 w a' zs) (hn : rows.length ≤ 1048576) (hk : zs.length ≤ 1048576) (hm : ∀ r ∈ rows, r.length ≤ 1048576) (hB : rnB rows zs r = true) :
    Calls Try.prog 112 #[.agg #[.slice a rows.length c, .slice a' zs.length c'], .int .i64 r, .func (.func 113) #[] #[]] w (fun e w' => (okR rows zs r = true → RetPIB (fin rows zs r).p.1 (fin rows zs r).p.2 (fin rows zs r).mi true w e w') ∧ (okR rows zs r = false → RetPIB [] 0 [] false w e w')) := by
  have HMM := Lib.hid hm
  clear hm
  obtain ⟨hF, R, rfl, hR1, hR2⟩ := rf_of hB
  have hp := Lib.hid (show margin.hpB rows zs = true from by have := (rnB_iff _ _ _).1 hB; exact (margin.hpB_iff _ _).2 ⟨this.1, this.2.1⟩)
  have HF := Lib.hid hF
  have g1 : decide ((R : Int) < 1) = false := decide_eq_false (by omega)
  have g2 : decide ((12 : Int) < (R : Int)) = false := decide_eq_false (by omega)
  obtain ⟨iI, hi', hz0', hz1', hz2'⟩ := info_parts own1.infoInt
  obtain ⟨bl, off, rpx, rqx, hax, _, _, _, _⟩ := hr.at (k := 0) hF.pos
  subst hax
  clear hF hB
  have Hhr := Lib.hid hr
  have Hhz := Lib.hid hz
  clear hr hz
  go_enter Try.func112, Try.ntmps112
  go_wp2_with fail
  have x0_0 : (w.alloc (.cells #[.slice (some ⟨bl, off, none⟩) rows.length c, .slice a' zs.length c'] 27)).cell? ⟨w.heap.size, 0, none⟩ = some (.slice (some ⟨bl, off, none⟩) rows.length c) := cell_new _ _ _ (by simp) rfl
  have x0_1 : (w.alloc (.cells #[.slice (some ⟨bl, off, none⟩) rows.length c, .slice a' zs.length c'] 27)).cell? ⟨w.heap.size, 1, none⟩ = some (.slice a' zs.length c') := cell_new _ _ _ (by simp) rfl
  have HB0 := Lib.hid (below_alloc w (.cells #[.slice (some ⟨bl, off, none⟩) rows.length c, .slice a' zs.length c'] 27))
  replace x0_0 := cell_old (.cells #[.slice none 0 0, .int .i64 0] 46) x0_0
  replace x0_1 := cell_old (.cells #[.slice none 0 0, .int .i64 0] 46) x0_1
  have x1_0 : ((w.alloc (.cells #[.slice (some ⟨bl, off, none⟩) rows.length c, .slice a' zs.length c'] 27)).alloc (.cells #[.slice none 0 0, .int .i64 0] 46)).cell? ⟨w.heap.size + 1, 0, none⟩ = some (.slice none 0 0) := cell_new _ _ _ (by simp) rfl
  have x1_1 : ((w.alloc (.cells #[.slice (some ⟨bl, off, none⟩) rows.length c, .slice a' zs.length c'] 27)).alloc (.cells #[.slice none 0 0, .int .i64 0] 46)).cell? ⟨w.heap.size + 1, 1, none⟩ = some (.int .i64 0) := cell_new _ _ _ (by simp) rfl
  have f1_0 : ((w.alloc (.cells #[.slice (some ⟨bl, off, none⟩) rows.length c, .slice a' zs.length c'] 27)).alloc (.cells #[.slice none 0 0, .int .i64 0] 46)).frozen? ⟨w.heap.size + 1, 0, none⟩ = false := fro_new _ _ _ (by simp)
  have f1_1 : ((w.alloc (.cells #[.slice (some ⟨bl, off, none⟩) rows.length c, .slice a' zs.length c'] 27)).alloc (.cells #[.slice none 0 0, .int .i64 0] 46)).frozen? ⟨w.heap.size + 1, 1, none⟩ = false := fro_new _ _ _ (by simp)
  replace HB0 := Lib.hid (HB0.out.alloc (by simp) (.cells #[.slice none 0 0, .int .i64 0] 46))
  have s0 : w.heap.size + 2 ≤ ((w.alloc (.cells #[.slice (some ⟨bl, off, none⟩) rows.length c, .slice a' zs.length c'] 27)).alloc (.cells #[.slice none 0 0, .int .i64 0] 46)).heap.size := by simp
  generalize hw : ((w.alloc (.cells #[.slice (some ⟨bl, off, none⟩) rows.length c, .slice a' zs.length c'] 27)).alloc (.cells #[.slice none 0 0, .int .i64 0] 46)) = w0 at *
  clear hw
  have n0_0 : w.heap.size < w0.heap.size := by omega
  have n0_1 : w.heap.size + 1 < w0.heap.size := by omega
  refine (margin.impl_hasPoints (some ⟨bl, off, none⟩) rows c a' zs c' _ (Hhr.out.below HB0.out) (Hhz.out.below HB0.out) hn hk HMM.out true hp).mono ?_
  rintro e w1 ⟨rfl, hb⟩
  have s1 : w0.heap.size ≤ w1.heap.size := hb.size
  have n1_0 : w.heap.size < w1.heap.size := by omega
  have n1_1 : w.heap.size + 1 < w1.heap.size := by omega
  replace x0_0 := cell_below hb x0_0 (by omega)
  replace x0_1 := cell_below hb x0_1 (by omega)
  replace x1_0 := cell_below hb x1_0 (by omega)
  replace x1_1 := cell_below hb x1_1 (by omega)
  replace f1_0 := fro_below hb f1_0 (by omega)
  replace f1_1 := fro_below hb f1_1 (by omega)
  have HB1 := Lib.hid (HB0.out.trans (hb.mono (by omega)))
  clear hb
  obtain ⟨bl', off', rp0, rq0, hab, hbl, hc0, _, _⟩ := (Hhr.out.below HB1.out).at (k := 0) HF.out.pos
  obtain ⟨rfl, rfl⟩ : bl = bl' ∧ off = off' := by cases hab; exact ⟨rfl, rfl⟩
  rw [Nat.add_zero] at hc0
  have HX := Lib.hid (show w1.cell? ⟨w.heap.size, 0, none⟩ = some (.slice (some ⟨bl, off, none⟩) rows.length c) ∧ w1.cell? ⟨w.heap.size, 1, none⟩ = some (.slice a' zs.length c') ∧ w1.cell? ⟨w.heap.size + 1, 0, none⟩ = some (.slice none 0 0) ∧ w1.cell? ⟨w.heap.size + 1, 1, none⟩ = some (.int .i64 0) ∧ w1.frozen? ⟨w.heap.size + 1, 0, none⟩ = false ∧ w1.frozen? ⟨w.heap.size + 1, 1, none⟩ = false from ⟨x0_0, x0_1, x1_0, x1_1, f1_0, f1_1⟩)
  have HBC := HB1
  have hd14 := HF.out.dim
  have HFP := Lib.hid (counts.impl_first bl off rows.length c (.slice a' zs.length c') (rows.getD 0 []) rp0 rq0 w1 HF.out.pos hbl hc0 hd14 a' zs.length c' rfl)
  have HDM := Lib.hid (show (ini rows).p.1.length = (rows.getD 0 []).length from by simp [ini, init])
  have HI0 := Lib.hid (show ini rows = ⟨(List.replicate (rows.getD 0 []).length 0, 0), [], [], []⟩ from rfl)
  have HPI := Lib.hid (ini_ok rows HF.out.dim)
  clear hc0 hab
  go_wp2_with fail
  refine HFP.out.mono ?_
  rintro e w3 ⟨v0, rfl, ho, hb⟩
  have hb3 := hb
  obtain ⟨p0, q0', rfl, _, _, _⟩ := ho.slice
  rw [List.length_replicate] at ho
  have HO0 := Lib.hid ho
  have HB3 := Lib.hid hb
  have hs3 := hb.size
  clear ho hb hb3 x0_0 x0_1 x1_0 x1_1 f1_0 f1_1
  generalize hrr : rows.getD 0 [] = r0 at HI0 hd14 HO0 HDM
  have HR0 := Lib.hid hrr
  clear hrr

  go_wp2_with fail
  obtain ⟨B, hB⟩ : ∃ B, B = w3.heap.size + 1 := ⟨_, rfl⟩
  have HST := Lib.hid (show ∃ (pv : Option Addr) (qv : Nat), (((w3.alloc (.cells #[] 3)).alloc (.cells #[.slice p0 r0.length q0', .int .i64 0] 46)).cell? ⟨B, 0, none⟩ = some (.slice pv (ini rows).p.1.length qv) ∧ ((w3.alloc (.cells #[] 3)).alloc (.cells #[.slice p0 r0.length q0', .int .i64 0] 46)).cell? ⟨B, 1, none⟩ = some (.int .i64 (ini rows).p.2) ∧ ((w3.alloc (.cells #[] 3)).alloc (.cells #[.slice p0 r0.length q0', .int .i64 0] 46)).frozen? ⟨B, 0, none⟩ = false ∧ ((w3.alloc (.cells #[] 3)).alloc (.cells #[.slice p0 r0.length q0', .int .i64 0] 46)).frozen? ⟨B, 1, none⟩ = false) ∧ OwnI w1.heap.size ((w3.alloc (.cells #[] 3)).alloc (.cells #[.slice p0 r0.length q0', .int .i64 0] 46)).heap.size ((w3.alloc (.cells #[] 3)).alloc (.cells #[.slice p0 r0.length q0', .int .i64 0] 46)) (.slice pv (ini rows).p.1.length qv) (ini rows).p.1 ∧ ((w3.alloc (.cells #[] 3)).alloc (.cells #[.slice p0 r0.length q0', .int .i64 0] 46)).ownsRow w1.heap.size 3 1 (Value.slice (some ⟨w3.heap.size, 0, none⟩) 0 0) (ini rows).mi.length ((ini rows).mi.map (Value.int .i64)) ∧ (∀ g, (Value.slice pv (ini rows).p.1.length qv).ownBlock = some g → (Value.slice (some ⟨w3.heap.size, 0, none⟩) 0 0).ownBlock ≠ some g) ∧ (∀ g, (Value.slice (some ⟨w3.heap.size, 0, none⟩) 0 0).ownBlock = some g → g ≠ B) from by
    rw [HI0.out]
    refine ⟨p0, q0', ?_⟩
    dsimp only
    rw [List.length_replicate]
    refine ⟨⟨cell_new _ _ _ (by simp [hB]) rfl, cell_new _ _ _ (by simp [hB]) rfl, fro_new _ _ _ (by simp [hB]), fro_new _ _ _ (by simp [hB])⟩, ?_, ?_, ?_, fun g e => by (have h9 : w3.heap.size = g := by simpa [Value.ownBlock] using e); omega⟩
    · exact ((HO0.out.below ((below_alloc w3 (.cells #[] 3)).trans ((below_alloc _ (.cells #[.slice p0 r0.length q0', .int .i64 0] 46)).mono (by simp))))).mono (Nat.le_refl _) (show w3.heap.size ≤ ((w3.alloc (.cells #[] 3)).alloc (.cells #[.slice p0 r0.length q0', .int .i64 0] 46)).heap.size by simp; omega)
    · have := (World.ownsRow_made (base := w1.heap.size) (e := 3) (size := 1) w3 #[] 0 (by omega) (by unfold maxLen; omega) rfl).alloc (.cells #[.slice p0 r0.length q0', .int .i64 0] 46)
      simpa using this
    · intro g e e2
      have h9 : w3.heap.size = g := by simpa [Value.ownBlock] using e2
      have := (HO0.out.lt e).2.1
      omega)
  have HBJ := Lib.hid ((HB3.out.alloc (by omega) (.cells #[] 3)).alloc (by simp; omega) (.cells #[.slice p0 r0.length q0', .int .i64 0] 46))
  have HBo := Lib.hid (show B < ((w3.alloc (.cells #[] 3)).alloc (.cells #[.slice p0 r0.length q0', .int .i64 0] 46)).heap.size from by rw [hB]; simp)
  have hCB : w1.heap.size ≤ B := by omega
  try rw [show w3.heap.size + 1 = B from by rw [hB]]
  clear HI0 HO0
  generalize ((w3.alloc (.cells #[] 3)).alloc (.cells #[.slice p0 r0.length q0', .int .i64 0] 46)) = w9 at *
  have HBe := Lib.hid hB
  clear hB
  have HRB := Lib.hid (show (ini rows).mi.length ≤ 0 ∧ (ini rows).p.1.length = r0.length from ⟨Nat.le_refl _, HDM.out⟩)
  go_loopw [10, 31] (fun mv i wr => ∃ (j : Nat) (st : Sta), j ≤ R ∧ i = .int .i64 j ∧ Hid (okR rows zs R = okRun rows zs (R - j) st ∧ fin rows zs R = endRun rows zs (R - j) st) ∧ Hid (okP st = true) ∧ Hid (st.mi.length ≤ j ∧ st.p.1.length = r0.length) ∧ Hid (∃ (pv : Option Addr) (qv : Nat), (wr.cell? ⟨B, 0, none⟩ = some (.slice pv (st).p.1.length qv) ∧ wr.cell? ⟨B, 1, none⟩ = some (.int .i64 (st).p.2) ∧ wr.frozen? ⟨B, 0, none⟩ = false ∧ wr.frozen? ⟨B, 1, none⟩ = false) ∧ OwnI w1.heap.size wr.heap.size wr (.slice pv (st).p.1.length qv) (st).p.1 ∧ wr.ownsRow w1.heap.size 3 1 mv (st).mi.length ((st).mi.map (Value.int .i64)) ∧ (∀ g, (Value.slice pv (st).p.1.length qv).ownBlock = some g → mv.ownBlock ≠ some g) ∧ (∀ g, mv.ownBlock = some g → g ≠ B)) ∧ Hid (Below w1.heap.size w1 wr) ∧ Hid (B < wr.heap.size)) (fun _ i _ => R - (intOf i).toNat)
  case atStart => exact ⟨0, ini rows, Nat.zero_le _, rfl, Lib.hid ⟨rfl, rfl⟩, HPI, HRB, HST, HBJ, HBo⟩
  case round =>
    obtain ⟨j, st, hj, rfl, HEQ, HPS, HBD, HS, HBl, HBs⟩ := hrel
    clear HST HBJ HBo HRB HPI
    have hbs := HBs.out
    have hsz := HBl.out.size
    obtain ⟨pv, qv, hq, hov, hom, hap, hmb⟩ := HS.out
    clear HS
    by_cases hlj : j < R
    · have j1 : (j : Int) < (R : Int) := by omega
      have y0 := hq.1
      have y1 := hq.2.1
      have HQ := Lib.hid hq
      have HOV := Lib.hid hov
      have HOM := Lib.hid hom
      have HAP := Lib.hid hap
      have HMB := Lib.hid hmb
      clear hq hov hom hap hmb
      have x0_0 := cell_below HBl.out HX.out.1 (by omega)
      have x0_1 := cell_below HBl.out HX.out.2.1 (by omega)
      have HBW := Lib.hid (HBC.out.trans (HBl.out.mono (by omega)))
      have HRD := Lib.hid (impl_round st (some ⟨bl, off, none⟩) rows c a' zs c' pv qv wr (Hhr.out.below HBW.out) (Hhz.out.below HBW.out) HOV.out.reads HF.out HPS.out (by rw [HBD.out.2, HR0.out]))
      have hmj := HBD.out.1
      cases hto : okTo rows zs st rows.length
      · have HOKR := Lib.hid (show okR rows zs (R : Int) = false from by rw [HEQ.out.1, show R - j = (R - (j + 1)) + 1 from by omega]; exact okRun_no hto)
        have HTO := Lib.hid hto
        clear hto
        obtain ⟨⟨ws, b⟩, smi, str, spl⟩ := st
        dsimp only at *
        go_wp2_with fail
        refine HRD.out.mono ?_
        rintro e w5 ⟨hb5, _, hbad⟩
        have he := hbad HTO.out
        subst he
        have HB5 := Lib.hid (HBl.out.trans (hb5.mono (by omega)))
        have hs5 := hb5.size
        clear hb5 hbad
        have hb9 := HB5.out.trans ((below_alloc w5 (.cells #[.slice none 0 0, .int .i64 0] 46)).mono HB5.out.size)
        clear hb9
        have x1_0 := cell_below HB5.out HX.out.2.2.1 (by omega)
        have x1_1 := cell_below HB5.out HX.out.2.2.2.1 (by omega)
        have f1_0 := fro_below HB5.out HX.out.2.2.2.2.1 (by omega)
        have f1_1 := fro_below HB5.out HX.out.2.2.2.2.2 (by omega)
        have nb5 : w.heap.size + 1 < w5.heap.size := by omega
        have f9_0 : ((w5.alloc (.cells #[.slice none 0 0, .int .i64 0] 46)).alloc (.cells #[] 3)).frozen? ⟨w.heap.size + 1, 0, none⟩ = false := fro_old _ (by simp; omega) (fro_old _ nb5 f1_0)
        have f9_1 : ((w5.alloc (.cells #[.slice none 0 0, .int .i64 0] 46)).alloc (.cells #[] 3)).frozen? ⟨w.heap.size + 1, 1, none⟩ = false := fro_old _ (by simp; omega) (fro_old _ nb5 f1_1)
        have c9_0 : ((w5.alloc (.cells #[.slice none 0 0, .int .i64 0] 46)).alloc (.cells #[] 3)).cell? ⟨w.heap.size + 1, 0, none⟩ = some (.slice none 0 0) := cell_old _ (cell_old _ x1_0)
        have c9_1 : ((w5.alloc (.cells #[.slice none 0 0, .int .i64 0] 46)).alloc (.cells #[] 3)).cell? ⟨w.heap.size + 1, 1, none⟩ = some (.int .i64 0) := cell_old _ (cell_old _ x1_1)
        go_wp2_with fail
        have hx9 : (w5.alloc (.cells #[.slice none 0 0, .int .i64 0] 46)).heap.size = w5.heap.size + 1 := by simp
        have ho9 := own_empty (w5.alloc (.cells #[.slice none 0 0, .int .i64 0] 46))
        rw [hx9] at ho9
        have HF9 := Lib.hid (show RetPIB [] 0 [] false w (.returned (.tuple #[.agg #[.slice none 0 0, .int .i64 0], .slice (some ⟨w5.heap.size + 1, 0, none⟩) 0 0, .bool false])) ((((w5.alloc (.cells #[.slice none 0 0, .int .i64 0] 46)).alloc (.cells #[] 3)).setCell ⟨w.heap.size + 1, 0, none⟩ (.slice none 0 0)).setCell ⟨w.heap.size + 1, 1, none⟩ (.int .i64 0)) from ⟨_, _, rfl, OwnI.nil _ _ _, ((ho9.set (a := ⟨w.heap.size + 1, 0, none⟩) (by simp; omega) (.slice none 0 0)).set (a := ⟨w.heap.size + 1, 1, none⟩) (by simp; omega) (.int .i64 0)).mono (by omega) (by simp [size_set]), (fun g e => by simp [Value.ownBlock] at e), ((((HBC.out.trans (HB5.out.mono (by omega))).alloc (by omega) _).alloc (by rw [hx9]; omega) _).setCell (by simp) _).setCell (by simp) _⟩)
        refine bodyPost_ret (v := .tuple #[.agg #[.slice none 0 0, .int .i64 0], .slice (some ⟨w5.heap.size + 1, 0, none⟩) 0 0, .bool false]) (by simp [results, Try.results112, go_sem, c9_0, c9_1]) rfl ⟨(fun h => by rw [HOKR.out] at h; cases h), fun _ => HF9.out⟩
      · by_cases h0 : cn rows zs st rows.length = 0
        · have HSTEP := Lib.hid (show okR rows zs (R : Int) = true ∧ fin rows zs (R : Int) = rnd rows zs st from by
            rw [HEQ.out.1, HEQ.out.2, show R - j = (R - (j + 1)) + 1 from by omega]
            exact run_stop hto h0)
          have HRN := Lib.hid (show (rnd rows zs st).p = (inn rows zs st rows.length).p ∧ (rnd rows zs st).mi = st.mi ++ [(cn rows zs st rows.length : Int)] from ⟨rfl, rfl⟩)
          have HPS2 := Lib.hid (show okP (rnd rows zs st) = true from okTo_at (k := rows.length - 1) hto (by have := HF.out.pos; omega) |> fun h => by rw [show rows.length - 1 + 1 = rows.length from by have := HF.out.pos; omega] at h; exact h)
          have HBD2 := Lib.hid (show (rnd rows zs st).mi.length ≤ j + 1 ∧ (rnd rows zs st).p.1.length = r0.length from ⟨by rw [HRN.out.2, List.length_append, List.length_singleton]; omega, by rw [HRN.out.1, inn_len]; exact HBD.out.2⟩)
          have HTO := Lib.hid hto
          have hcn := cn_le rows zs st rows.length
          have s16 := HF.out.few
          have g9 : ((cn rows zs st rows.length : Int) == 0) = true := by rw [h0]; rfl
          clear hto h0
          have HRD2 := Lib.hid (HRD.out.mono fun e w' h => And.intro h.1 (h.2.1 HTO.out))
          clear HRD
          generalize rnd rows zs st = rs at *
          generalize inn rows zs st rows.length = sn at *
          generalize cn rows zs st rows.length = cnt at *
          obtain ⟨⟨ws, b⟩, smi, str, spl⟩ := st
          obtain ⟨⟨zz, bb⟩, _, _, _⟩ := sn
          dsimp only at *
          generalize hml : smi.length = ml at *
          have HML := Lib.hid hml
          clear hml
          go_wp2_with fail
          refine HRD2.out.mono ?_
          rintro e w5 ⟨hb5, v5, rfl, ho5⟩
          obtain ⟨p1, q1, rfl, _, _, _⟩ := ho5.slice
          have hs5 := hb5.size
          have hb8 := hb5.trans ((below_alloc w5 (.cells #[.slice p1 zz.length q1, .int .i64 bb] 46)).mono hs5)
          have n0 : (w5.alloc (.cells #[.slice p1 zz.length q1, .int .i64 bb] 46)).cell? ⟨w5.heap.size, 0, none⟩ = some (.slice p1 zz.length q1) := cell_new _ _ _ rfl rfl
          have n1 : (w5.alloc (.cells #[.slice p1 zz.length q1, .int .i64 bb] 46)).cell? ⟨w5.heap.size, 1, none⟩ = some (.int .i64 bb) := cell_new _ _ _ rfl rfl
          have HP8 := Lib.hid ((ho5.below (below_alloc w5 (.cells #[.slice p1 zz.length q1, .int .i64 bb] 46))).mono (Nat.le_refl wr.heap.size) (show w5.heap.size ≤ (w5.alloc (.cells #[.slice p1 zz.length q1, .int .i64 bb] 46)).heap.size by simp))
          have hs8 : w5.heap.size < (w5.alloc (.cells #[.slice p1 zz.length q1, .int .i64 bb] 46)).heap.size := by simp
          go_wp2_with fail
          generalize (w5.alloc (.cells #[.slice p1 zz.length q1, .int .i64 bb] 46)) = w8 at *
          have HB8 := Lib.hid hb8
          clear hb8 hb5 ho5
          have HQ8 := Lib.hid (show w8.cell? ⟨B, 0, none⟩ = some (.slice pv ws.length qv) ∧ w8.cell? ⟨B, 1, none⟩ = some (.int .i64 b) ∧ w8.frozen? ⟨B, 0, none⟩ = false ∧ w8.frozen? ⟨B, 1, none⟩ = false from ⟨cell_below HB8.out HQ.out.1 (by omega), cell_below HB8.out HQ.out.2.1 (by omega), fro_below HB8.out HQ.out.2.2.1 (by omega), fro_below HB8.out HQ.out.2.2.2 (by omega)⟩)
          have HM8 := Lib.hid (show w8.ownsRow w1.heap.size 3 1 u10 ml (smi.map (Value.int .i64)) from ownsRow_block HOM.out (fun g e => HB8.out.block g (HOM.out.lt g e).2))
          have HA8 := Lib.hid (show ∀ g, (Value.slice p1 zz.length q1).ownBlock = some g → u10.ownBlock ≠ some g from fun g e e2 => by have h1 := (HP8.out.lt e).1; have h2 := (HOM.out.lt g e2).2; omega)
          have hmB := fun g e => HMB.out g e
          have hlm := fun g e => (HM8.out.lt g e)
          have HmN := Lib.hid (show ∀ g, u10.ownBlock = some g → g ≠ w5.heap.size from fun g e => by have := (HOM.out.lt g e).2; omega)
          refine wp_region_noPanic ?_
          refine wp_region_held_drew (S := fun w' => w'.cell? ⟨w5.heap.size, 0, none⟩ = some (.slice p1 zz.length q1) ∧ w'.cell? ⟨w5.heap.size, 1, none⟩ = some (.int .i64 bb)) (by kernel_rfl) ?_ (fun hHeld => ?_)
          · exact ⟨n0, n1⟩
          refine wpAnyH_take (i := 0) (v := ?_) rfl (by kernel_rfl) (by kernel_rfl) (by kernel_rfl) (fun _ _ _ h => h) (Or.inl ⟨by rfl, ?_⟩) (by assumption) ?_
          rotate_left
          · intro w9 hSw; (try dsimp only at hSw); go_simp; try with_reducible rfl
          try simp only [List.getElem_toArray, List.getElem_cons_succ, List.getElem_cons_zero, Act.put, List.setIfInBounds_toArray, List.set_cons_zero, List.set_cons_succ]
          refine wpAnyH_take (i := 1) (v := ?_) rfl (by kernel_rfl) (by kernel_rfl) (by kernel_rfl) (fun _ _ _ h => h) (Or.inl ⟨by rfl, ?_⟩) (by assumption) ?_
          rotate_left
          · intro w9 hSw; (try dsimp only at hSw); go_simp; try with_reducible rfl
          try simp only [List.getElem_toArray, List.getElem_cons_succ, List.getElem_cons_zero, Act.put, List.setIfInBounds_toArray, List.set_cons_zero, List.set_cons_succ]
          refine wpAnyH_take (i := 2) (v := ?_) rfl (by kernel_rfl) (by kernel_rfl) (by kernel_rfl) (fun _ _ _ h => h) (Or.inl ⟨by rfl, ?_⟩) (by assumption) ?_
          rotate_left
          · intro w9 hSw; (try dsimp only at hSw); go_simp; try with_reducible rfl
          try simp only [List.getElem_toArray, List.getElem_cons_succ, List.getElem_cons_zero, Act.put, List.setIfInBounds_toArray, List.set_cons_zero, List.set_cons_succ]
          refine wpAnyH_ready (rs := [3]) (by kernel_rfl) (by simp) ?_
          refine AllReadyH.cons rfl (fun K hK => ?_) ?_
          · go_simp
            refine hK.out _ _ ?_ (fun hHeld => ?_)
            · exact ⟨cell_old _ hHeld.1, cell_old _ hHeld.2⟩
            clear hK K
            try simp only [List.getElem_toArray, List.getElem_cons_succ, List.getElem_cons_zero, Act.put, List.setIfInBounds_toArray, List.set_cons_zero, List.set_cons_succ]
            have HNW := Lib.hid (show ∀ (j : Nat) (u : Value), [Value.int .i64 (cnt : Int)][j]? = some u → (w8.alloc (.cells #[.int .i64 (cnt : Int)] 3)).cell? ((⟨w8.heap.size, 0, none⟩ : Addr).add j) = some u from fun j u hj => by
              cases j with
              | zero =>
                simp at hj; subst hj
                exact cell_new _ _ _ (by simp [size_set]) rfl
              | succ j => simp at hj)
            refine wpAnyH_ready (rs := [4]) (by kernel_rfl) (by simp) ?_
            refine AllReadyH.cons rfl (fun K hK => ?_) ?_
            · (refine step_append_lies _ (by rfl) _ _ _ (by rfl) w1.heap.size 3 iI _ 1 8 Try.underlying23 hi' hz0' hz1' hz2' rfl (by omega) u10 ml (smi.map (Value.int .i64)) (by rfl) (HM8.out.alloc _) _ 1 1 [.int .i64 (cnt : Int)] (by rfl) (by rfl) HNW.out (by simp [Value.oneCell']) (by omega) (by unfold maxLen; omega) (by omega) (by simp; omega) _ rfl ?_)
              intro gg cap w9 hown hgrow hat hlt9
              have HGB := Lib.hid (show ∀ g, (Value.slice (some ⟨gg, 0, none⟩) (ml + 1) cap).ownBlock = some g → g ≠ B from fun g e => by
                obtain rfl : gg = g := by simpa [Value.ownBlock] using e
                rcases hat with ha | ha
                · exact hmB _ ha
                · simp [size_set] at ha; omega)
              obtain ⟨t0, t1, t2, t3⟩ := HQ8.out
              have nf : ∀ q, some q = u10.ownBlock → q = B → False := fun q e h => hmB q e.symm h
              have hQ9 : w9.cell? ⟨B, 0, none⟩ = some (.slice pv ws.length qv) ∧ w9.cell? ⟨B, 1, none⟩ = some (.int .i64 b) ∧ w9.frozen? ⟨B, 0, none⟩ = false ∧ w9.frozen? ⟨B, 1, none⟩ = false := ⟨hgrow.cell (cell_old _ t0) (fun e => nf _ e rfl), hgrow.cell (cell_old _ t1) (fun e => nf _ e rfl), (hgrow.frozen_far ⟨B, 0, none⟩ (by simp; omega) (fun e => nf _ e rfl)).trans (fro_old _ (by omega) t2), (hgrow.frozen_far ⟨B, 1, none⟩ (by simp; omega) (fun e => nf _ e rfl)).trans (fro_old _ (by omega) t3)⟩
              obtain ⟨q0, q1_, q2, q3⟩ := hQ9
              refine hK.out _ _ ?_ (fun hHeld => ?_)
              · exact ⟨hgrow.cell (cell_old _ n0) (fun e => HmN.out _ e.symm rfl), hgrow.cell (cell_old _ n1) (fun e => HmN.out _ e.symm rfl)⟩
              clear hK K
              try simp only [List.getElem_toArray, List.getElem_cons_succ, List.getElem_cons_zero, Act.put, List.setIfInBounds_toArray, List.set_cons_zero, List.set_cons_succ]
              refine wpAnyH_ready (rs := [5]) (by kernel_rfl) (by simp) ?_
              refine AllReadyH.cons rfl (fun K hK => ?_) ?_
              · go_simp
                refine hK.out _ _ ?_ (fun hHeld => ?_)
                · exact ⟨cell_set (cell_set hHeld.1 (by simp; omega) _) (by simp; omega) _, cell_set (cell_set hHeld.2 (by simp; omega) _) (by simp; omega) _⟩
                clear hK K
                try simp only [List.getElem_toArray, List.getElem_cons_succ, List.getElem_cons_zero, Act.put, List.setIfInBounds_toArray, List.set_cons_zero, List.set_cons_succ]
                refine wpAnyH_take (i := 6) (v := ?_) rfl (by kernel_rfl) (by kernel_rfl) (by kernel_rfl) (fun _ _ _ h => h) (Or.inl ⟨by rfl, ?_⟩) (by assumption) ?_
                rotate_left
                · intro w9 hSw; (try dsimp only at hSw); go_simp; try with_reducible rfl
                try simp only [List.getElem_toArray, List.getElem_cons_succ, List.getElem_cons_zero, Act.put, List.setIfInBounds_toArray, List.set_cons_zero, List.set_cons_succ]
                have HP9 := own_grown (W := w8.drew) (O := (.cells #[.int .i64 (cnt : Int)] 3)) (u := u10) (HP8.out.below (Below.refl _ _).drew) hgrow HA8.out
                have hs9 : w8.heap.size < w9.heap.size := Nat.lt_of_lt_of_le (by simp) hgrow.size
                have HB9 : Below w1.heap.size w1 w9 := ((HBl.out.trans (HB8.out.mono (by omega))).alloc (by omega) (.cells #[.int .i64 (cnt : Int)] 3)).drew.grown hgrow (by simp; omega) (fun g e => (HM8.out.lt g e).1)
                have HMV := Lib.hid (show ((w9.setCell ⟨B, 0, none⟩ (.slice p1 zz.length q1)).setCell ⟨B, 1, none⟩ (.int .i64 bb)).ownsRow w1.heap.size 3 1 (.slice (some ⟨gg, 0, none⟩) (ml + 1) cap) (ml + 1) (smi.map (Value.int .i64) ++ [.int .i64 (cnt : Int)]) from ownsRow_block (ownsRow_block hown (fun g e => Below.heap_setCell _ _ _ _ (by have := HGB.out g e; simp; omega))) (fun g e => Below.heap_setCell _ _ _ _ (by have := HGB.out g e; simp; omega)))
                have HQV := Lib.hid (show ((w9.setCell ⟨B, 0, none⟩ (.slice p1 zz.length q1)).setCell ⟨B, 1, none⟩ (.int .i64 bb)).cell? ⟨B, 0, none⟩ = some (.slice p1 zz.length q1) ∧ ((w9.setCell ⟨B, 0, none⟩ (.slice p1 zz.length q1)).setCell ⟨B, 1, none⟩ (.int .i64 bb)).cell? ⟨B, 1, none⟩ = some (.int .i64 bb) ∧ ((w9.setCell ⟨B, 0, none⟩ (.slice p1 zz.length q1)).setCell ⟨B, 1, none⟩ (.int .i64 bb)).frozen? ⟨B, 0, none⟩ = false ∧ ((w9.setCell ⟨B, 0, none⟩ (.slice p1 zz.length q1)).setCell ⟨B, 1, none⟩ (.int .i64 bb)).frozen? ⟨B, 1, none⟩ = false from ⟨(World.cell?_setCell_other _ _ _ _ (by simp)).trans (World.cell?_setCell_same _ _ _ q0), World.cell?_setCell_same _ _ _ ((World.cell?_setCell_other _ _ _ _ (by simp)).trans q1_), by rw [World.frozen?_setCell, World.frozen?_setCell]; exact q2, by rw [World.frozen?_setCell, World.frozen?_setCell]; exact q3⟩)
                have HPV := Lib.hid (show OwnI w1.heap.size ((w9.setCell ⟨B, 0, none⟩ (.slice p1 zz.length q1)).setCell ⟨B, 1, none⟩ (.int .i64 bb)).heap.size ((w9.setCell ⟨B, 0, none⟩ (.slice p1 zz.length q1)).setCell ⟨B, 1, none⟩ (.int .i64 bb)) (.slice p1 zz.length q1) zz from ((HP9.set (by simp; omega) _).set (by simp; omega) _).mono (by omega) (by rw [size_set, size_set]; omega))
                have HBV := Lib.hid (show Below w1.heap.size w1 ((w9.setCell ⟨B, 0, none⟩ (.slice p1 zz.length q1)).setCell ⟨B, 1, none⟩ (.int .i64 bb)) from (HB9.setCell (by simp; omega) _).setCell (by simp; omega) _)
                have HsV := Lib.hid (show B < ((w9.setCell ⟨B, 0, none⟩ (.slice p1 zz.length q1)).setCell ⟨B, 1, none⟩ (.int .i64 bb)).heap.size from by rw [size_set, size_set]; omega)
                have HAV := Lib.hid (show ∀ g, (Value.slice p1 zz.length q1).ownBlock = some g → (Value.slice (some ⟨gg, 0, none⟩) (ml + 1) cap).ownBlock ≠ some g from fun g e e2 => by
                  obtain rfl : gg = g := by simpa [Value.ownBlock] using e2
                  rcases hat with ha | ha
                  · exact HA8.out _ e ha
                  · have h1 := (HP8.out.lt e).2.1; simp [size_set] at ha; omega)
                clear hown hgrow hat
                refine wpAnyH_done (by kernel_rfl) ?_ _
                refine NoPanic.normal ?_
                clear hHeld
                have HOKR := Lib.hid HSTEP.out.1
                have HFIN := Lib.hid HSTEP.out.2
                generalize ((w9.setCell ⟨B, 0, none⟩ (.slice p1 zz.length q1)).setCell ⟨B, 1, none⟩ (.int .i64 bb)) = w10 at *
                obtain ⟨u0, u1, _, _⟩ := HQV.out
                have HOM2 := Lib.hid (show OwnI w1.heap.size w10.heap.size w10 (.slice (some ⟨gg, 0, none⟩) (ml + 1) cap) (smi ++ [(cnt : Int)]) from OwnI.of (by rw [List.length_append, List.length_singleton, HML.out, List.map_append]; exact HMV.out))
                have x1_0 := cell_below HBV.out HX.out.2.2.1 (by omega)
                have x1_1 := cell_below HBV.out HX.out.2.2.2.1 (by omega)
                have f1_0 := fro_below HBV.out HX.out.2.2.2.2.1 (by omega)
                have f1_1 := fro_below HBV.out HX.out.2.2.2.2.2 (by omega)
                have HPO := Lib.hid (show ∀ e w', RetPIB zz bb (smi ++ [(cnt : Int)]) true w e w' → ((okR rows zs (R : Int) = true → RetPIB (fin rows zs (R : Int)).p.1 (fin rows zs (R : Int)).p.2 (fin rows zs (R : Int)).mi true w e w') ∧ (okR rows zs (R : Int) = false → RetPIB [] 0 [] false w e w')) from fun e w' h => ⟨fun _ => by rw [HFIN.out, HRN.out.1, HRN.out.2]; exact h, fun h2 => by rw [HOKR.out] at h2; cases h2⟩)
                have hsV := HsV.out
                go_wp2_with fail
                refine bodyPost_ret (v := .tuple #[.agg #[.slice p1 zz.length q1, .int .i64 bb], .slice (some ⟨gg, 0, none⟩) (ml + 1) cap, .bool true]) (by simp [results, Try.results112, go_sem, x1_0, x1_1]) rfl (HPO.out _ _ ⟨_, _, rfl, ?_, ?_, HAV.out, ?_⟩)
                · simp only [size_set]; exact ((HPV.out.set (by simp; omega) _).set (by simp; omega) _).mono (by omega) (Nat.le_refl _)
                · simp only [size_set]; exact ((HOM2.out.set (by simp; omega) _).set (by simp; omega) _).mono (by omega) (Nat.le_refl _)
                · exact ((HBC.out.trans (HBV.out.mono (by omega))).setCell (by simp) _).setCell (by simp) _
              exact AllReadyH.nil
            exact AllReadyH.nil
          exact AllReadyH.nil
        · have HSTEP := Lib.hid (show okR rows zs (R : Int) = okRun rows zs (R - (j + 1)) (rnd rows zs st) ∧ fin rows zs (R : Int) = endRun rows zs (R - (j + 1)) (rnd rows zs st) from by
            rw [HEQ.out.1, HEQ.out.2, show R - j = (R - (j + 1)) + 1 from by omega]
            exact run_on hto h0)
          have HRN := Lib.hid (show (rnd rows zs st).p = (inn rows zs st rows.length).p ∧ (rnd rows zs st).mi = st.mi ++ [(cn rows zs st rows.length : Int)] from ⟨rfl, rfl⟩)
          have HPS2 := Lib.hid (show okP (rnd rows zs st) = true from okTo_at (k := rows.length - 1) hto (by have := HF.out.pos; omega) |> fun h => by rw [show rows.length - 1 + 1 = rows.length from by have := HF.out.pos; omega] at h; exact h)
          have HBD2 := Lib.hid (show (rnd rows zs st).mi.length ≤ j + 1 ∧ (rnd rows zs st).p.1.length = r0.length from ⟨by rw [HRN.out.2, List.length_append, List.length_singleton]; omega, by rw [HRN.out.1, inn_len]; exact HBD.out.2⟩)
          have HTO := Lib.hid hto
          have hcn := cn_le rows zs st rows.length
          have s16 := HF.out.few
          have g9 : ((cn rows zs st rows.length : Int) == 0) = false := by rw [beq_eq_false_iff_ne]; omega
          clear hto h0
          have HRD2 := Lib.hid (HRD.out.mono fun e w' h => And.intro h.1 (h.2.1 HTO.out))
          clear HRD
          generalize rnd rows zs st = rs at *
          generalize inn rows zs st rows.length = sn at *
          generalize cn rows zs st rows.length = cnt at *
          obtain ⟨⟨ws, b⟩, smi, str, spl⟩ := st
          obtain ⟨⟨zz, bb⟩, _, _, _⟩ := sn
          dsimp only at *
          generalize hml : smi.length = ml at *
          have HML := Lib.hid hml
          clear hml
          go_wp2_with fail
          refine HRD2.out.mono ?_
          rintro e w5 ⟨hb5, v5, rfl, ho5⟩
          obtain ⟨p1, q1, rfl, _, _, _⟩ := ho5.slice
          have hs5 := hb5.size
          have hb8 := hb5.trans ((below_alloc w5 (.cells #[.slice p1 zz.length q1, .int .i64 bb] 46)).mono hs5)
          have n0 : (w5.alloc (.cells #[.slice p1 zz.length q1, .int .i64 bb] 46)).cell? ⟨w5.heap.size, 0, none⟩ = some (.slice p1 zz.length q1) := cell_new _ _ _ rfl rfl
          have n1 : (w5.alloc (.cells #[.slice p1 zz.length q1, .int .i64 bb] 46)).cell? ⟨w5.heap.size, 1, none⟩ = some (.int .i64 bb) := cell_new _ _ _ rfl rfl
          have HP8 := Lib.hid ((ho5.below (below_alloc w5 (.cells #[.slice p1 zz.length q1, .int .i64 bb] 46))).mono (Nat.le_refl wr.heap.size) (show w5.heap.size ≤ (w5.alloc (.cells #[.slice p1 zz.length q1, .int .i64 bb] 46)).heap.size by simp))
          have hs8 : w5.heap.size < (w5.alloc (.cells #[.slice p1 zz.length q1, .int .i64 bb] 46)).heap.size := by simp
          go_wp2_with fail
          generalize (w5.alloc (.cells #[.slice p1 zz.length q1, .int .i64 bb] 46)) = w8 at *
          have HB8 := Lib.hid hb8
          clear hb8 hb5 ho5
          have HQ8 := Lib.hid (show w8.cell? ⟨B, 0, none⟩ = some (.slice pv ws.length qv) ∧ w8.cell? ⟨B, 1, none⟩ = some (.int .i64 b) ∧ w8.frozen? ⟨B, 0, none⟩ = false ∧ w8.frozen? ⟨B, 1, none⟩ = false from ⟨cell_below HB8.out HQ.out.1 (by omega), cell_below HB8.out HQ.out.2.1 (by omega), fro_below HB8.out HQ.out.2.2.1 (by omega), fro_below HB8.out HQ.out.2.2.2 (by omega)⟩)
          have HM8 := Lib.hid (show w8.ownsRow w1.heap.size 3 1 u10 ml (smi.map (Value.int .i64)) from ownsRow_block HOM.out (fun g e => HB8.out.block g (HOM.out.lt g e).2))
          have HA8 := Lib.hid (show ∀ g, (Value.slice p1 zz.length q1).ownBlock = some g → u10.ownBlock ≠ some g from fun g e e2 => by have h1 := (HP8.out.lt e).1; have h2 := (HOM.out.lt g e2).2; omega)
          have hmB := fun g e => HMB.out g e
          have hlm := fun g e => (HM8.out.lt g e)
          have HmN := Lib.hid (show ∀ g, u10.ownBlock = some g → g ≠ w5.heap.size from fun g e => by have := (HOM.out.lt g e).2; omega)
          refine wp_region_noPanic ?_
          refine wp_region_held_drew (S := fun w' => w'.cell? ⟨w5.heap.size, 0, none⟩ = some (.slice p1 zz.length q1) ∧ w'.cell? ⟨w5.heap.size, 1, none⟩ = some (.int .i64 bb)) (by kernel_rfl) ?_ (fun hHeld => ?_)
          · exact ⟨n0, n1⟩
          refine wpAnyH_take (i := 0) (v := ?_) rfl (by kernel_rfl) (by kernel_rfl) (by kernel_rfl) (fun _ _ _ h => h) (Or.inl ⟨by rfl, ?_⟩) (by assumption) ?_
          rotate_left
          · intro w9 hSw; (try dsimp only at hSw); go_simp; try with_reducible rfl
          try simp only [List.getElem_toArray, List.getElem_cons_succ, List.getElem_cons_zero, Act.put, List.setIfInBounds_toArray, List.set_cons_zero, List.set_cons_succ]
          refine wpAnyH_take (i := 1) (v := ?_) rfl (by kernel_rfl) (by kernel_rfl) (by kernel_rfl) (fun _ _ _ h => h) (Or.inl ⟨by rfl, ?_⟩) (by assumption) ?_
          rotate_left
          · intro w9 hSw; (try dsimp only at hSw); go_simp; try with_reducible rfl
          try simp only [List.getElem_toArray, List.getElem_cons_succ, List.getElem_cons_zero, Act.put, List.setIfInBounds_toArray, List.set_cons_zero, List.set_cons_succ]
          refine wpAnyH_take (i := 2) (v := ?_) rfl (by kernel_rfl) (by kernel_rfl) (by kernel_rfl) (fun _ _ _ h => h) (Or.inl ⟨by rfl, ?_⟩) (by assumption) ?_
          rotate_left
          · intro w9 hSw; (try dsimp only at hSw); go_simp; try with_reducible rfl
          try simp only [List.getElem_toArray, List.getElem_cons_succ, List.getElem_cons_zero, Act.put, List.setIfInBounds_toArray, List.set_cons_zero, List.set_cons_succ]
          refine wpAnyH_ready (rs := [3]) (by kernel_rfl) (by simp) ?_
          refine AllReadyH.cons rfl (fun K hK => ?_) ?_
          · go_simp
            refine hK.out _ _ ?_ (fun hHeld => ?_)
            · exact ⟨cell_old _ hHeld.1, cell_old _ hHeld.2⟩
            clear hK K
            try simp only [List.getElem_toArray, List.getElem_cons_succ, List.getElem_cons_zero, Act.put, List.setIfInBounds_toArray, List.set_cons_zero, List.set_cons_succ]
            have HNW := Lib.hid (show ∀ (j : Nat) (u : Value), [Value.int .i64 (cnt : Int)][j]? = some u → (w8.alloc (.cells #[.int .i64 (cnt : Int)] 3)).cell? ((⟨w8.heap.size, 0, none⟩ : Addr).add j) = some u from fun j u hj => by
              cases j with
              | zero =>
                simp at hj; subst hj
                exact cell_new _ _ _ (by simp [size_set]) rfl
              | succ j => simp at hj)
            refine wpAnyH_ready (rs := [4]) (by kernel_rfl) (by simp) ?_
            refine AllReadyH.cons rfl (fun K hK => ?_) ?_
            · (refine step_append_lies _ (by rfl) _ _ _ (by rfl) w1.heap.size 3 iI _ 1 8 Try.underlying23 hi' hz0' hz1' hz2' rfl (by omega) u10 ml (smi.map (Value.int .i64)) (by rfl) (HM8.out.alloc _) _ 1 1 [.int .i64 (cnt : Int)] (by rfl) (by rfl) HNW.out (by simp [Value.oneCell']) (by omega) (by unfold maxLen; omega) (by omega) (by simp; omega) _ rfl ?_)
              intro gg cap w9 hown hgrow hat hlt9
              have HGB := Lib.hid (show ∀ g, (Value.slice (some ⟨gg, 0, none⟩) (ml + 1) cap).ownBlock = some g → g ≠ B from fun g e => by
                obtain rfl : gg = g := by simpa [Value.ownBlock] using e
                rcases hat with ha | ha
                · exact hmB _ ha
                · simp [size_set] at ha; omega)
              obtain ⟨t0, t1, t2, t3⟩ := HQ8.out
              have nf : ∀ q, some q = u10.ownBlock → q = B → False := fun q e h => hmB q e.symm h
              have hQ9 : w9.cell? ⟨B, 0, none⟩ = some (.slice pv ws.length qv) ∧ w9.cell? ⟨B, 1, none⟩ = some (.int .i64 b) ∧ w9.frozen? ⟨B, 0, none⟩ = false ∧ w9.frozen? ⟨B, 1, none⟩ = false := ⟨hgrow.cell (cell_old _ t0) (fun e => nf _ e rfl), hgrow.cell (cell_old _ t1) (fun e => nf _ e rfl), (hgrow.frozen_far ⟨B, 0, none⟩ (by simp; omega) (fun e => nf _ e rfl)).trans (fro_old _ (by omega) t2), (hgrow.frozen_far ⟨B, 1, none⟩ (by simp; omega) (fun e => nf _ e rfl)).trans (fro_old _ (by omega) t3)⟩
              obtain ⟨q0, q1_, q2, q3⟩ := hQ9
              refine hK.out _ _ ?_ (fun hHeld => ?_)
              · exact ⟨hgrow.cell (cell_old _ n0) (fun e => HmN.out _ e.symm rfl), hgrow.cell (cell_old _ n1) (fun e => HmN.out _ e.symm rfl)⟩
              clear hK K
              try simp only [List.getElem_toArray, List.getElem_cons_succ, List.getElem_cons_zero, Act.put, List.setIfInBounds_toArray, List.set_cons_zero, List.set_cons_succ]
              refine wpAnyH_ready (rs := [5]) (by kernel_rfl) (by simp) ?_
              refine AllReadyH.cons rfl (fun K hK => ?_) ?_
              · go_simp
                refine hK.out _ _ ?_ (fun hHeld => ?_)
                · exact ⟨cell_set (cell_set hHeld.1 (by simp; omega) _) (by simp; omega) _, cell_set (cell_set hHeld.2 (by simp; omega) _) (by simp; omega) _⟩
                clear hK K
                try simp only [List.getElem_toArray, List.getElem_cons_succ, List.getElem_cons_zero, Act.put, List.setIfInBounds_toArray, List.set_cons_zero, List.set_cons_succ]
                refine wpAnyH_take (i := 6) (v := ?_) rfl (by kernel_rfl) (by kernel_rfl) (by kernel_rfl) (fun _ _ _ h => h) (Or.inl ⟨by rfl, ?_⟩) (by assumption) ?_
                rotate_left
                · intro w9 hSw; (try dsimp only at hSw); go_simp; try with_reducible rfl
                try simp only [List.getElem_toArray, List.getElem_cons_succ, List.getElem_cons_zero, Act.put, List.setIfInBounds_toArray, List.set_cons_zero, List.set_cons_succ]
                have HP9 := own_grown (W := w8.drew) (O := (.cells #[.int .i64 (cnt : Int)] 3)) (u := u10) (HP8.out.below (Below.refl _ _).drew) hgrow HA8.out
                have hs9 : w8.heap.size < w9.heap.size := Nat.lt_of_lt_of_le (by simp) hgrow.size
                have HB9 : Below w1.heap.size w1 w9 := ((HBl.out.trans (HB8.out.mono (by omega))).alloc (by omega) (.cells #[.int .i64 (cnt : Int)] 3)).drew.grown hgrow (by simp; omega) (fun g e => (HM8.out.lt g e).1)
                have HMV := Lib.hid (show ((w9.setCell ⟨B, 0, none⟩ (.slice p1 zz.length q1)).setCell ⟨B, 1, none⟩ (.int .i64 bb)).ownsRow w1.heap.size 3 1 (.slice (some ⟨gg, 0, none⟩) (ml + 1) cap) (ml + 1) (smi.map (Value.int .i64) ++ [.int .i64 (cnt : Int)]) from ownsRow_block (ownsRow_block hown (fun g e => Below.heap_setCell _ _ _ _ (by have := HGB.out g e; simp; omega))) (fun g e => Below.heap_setCell _ _ _ _ (by have := HGB.out g e; simp; omega)))
                have HQV := Lib.hid (show ((w9.setCell ⟨B, 0, none⟩ (.slice p1 zz.length q1)).setCell ⟨B, 1, none⟩ (.int .i64 bb)).cell? ⟨B, 0, none⟩ = some (.slice p1 zz.length q1) ∧ ((w9.setCell ⟨B, 0, none⟩ (.slice p1 zz.length q1)).setCell ⟨B, 1, none⟩ (.int .i64 bb)).cell? ⟨B, 1, none⟩ = some (.int .i64 bb) ∧ ((w9.setCell ⟨B, 0, none⟩ (.slice p1 zz.length q1)).setCell ⟨B, 1, none⟩ (.int .i64 bb)).frozen? ⟨B, 0, none⟩ = false ∧ ((w9.setCell ⟨B, 0, none⟩ (.slice p1 zz.length q1)).setCell ⟨B, 1, none⟩ (.int .i64 bb)).frozen? ⟨B, 1, none⟩ = false from ⟨(World.cell?_setCell_other _ _ _ _ (by simp)).trans (World.cell?_setCell_same _ _ _ q0), World.cell?_setCell_same _ _ _ ((World.cell?_setCell_other _ _ _ _ (by simp)).trans q1_), by rw [World.frozen?_setCell, World.frozen?_setCell]; exact q2, by rw [World.frozen?_setCell, World.frozen?_setCell]; exact q3⟩)
                have HPV := Lib.hid (show OwnI w1.heap.size ((w9.setCell ⟨B, 0, none⟩ (.slice p1 zz.length q1)).setCell ⟨B, 1, none⟩ (.int .i64 bb)).heap.size ((w9.setCell ⟨B, 0, none⟩ (.slice p1 zz.length q1)).setCell ⟨B, 1, none⟩ (.int .i64 bb)) (.slice p1 zz.length q1) zz from ((HP9.set (by simp; omega) _).set (by simp; omega) _).mono (by omega) (by rw [size_set, size_set]; omega))
                have HBV := Lib.hid (show Below w1.heap.size w1 ((w9.setCell ⟨B, 0, none⟩ (.slice p1 zz.length q1)).setCell ⟨B, 1, none⟩ (.int .i64 bb)) from (HB9.setCell (by simp; omega) _).setCell (by simp; omega) _)
                have HsV := Lib.hid (show B < ((w9.setCell ⟨B, 0, none⟩ (.slice p1 zz.length q1)).setCell ⟨B, 1, none⟩ (.int .i64 bb)).heap.size from by rw [size_set, size_set]; omega)
                have HAV := Lib.hid (show ∀ g, (Value.slice p1 zz.length q1).ownBlock = some g → (Value.slice (some ⟨gg, 0, none⟩) (ml + 1) cap).ownBlock ≠ some g from fun g e e2 => by
                  obtain rfl : gg = g := by simpa [Value.ownBlock] using e2
                  rcases hat with ha | ha
                  · exact HA8.out _ e ha
                  · have h1 := (HP8.out.lt e).2.1; simp [size_set] at ha; omega)
                clear hown hgrow hat
                refine wpAnyH_done (by kernel_rfl) ?_ _
                refine NoPanic.normal ?_
                clear hHeld
                go_wp2_with fail
                go_roundw
                case rel => exact ⟨j + 1, rs, by omega, by go_num, HSTEP, HPS2, HBD2, Lib.hid (by rw [HRN.out.1, HRN.out.2, List.length_append, List.length_singleton, HML.out, List.map_append]; exact ⟨p1, q1, HQV.out, HPV.out, HMV.out, HAV.out, HGB.out⟩), HBV, HsV⟩
                case measure => simp [intOf]; omega
              exact AllReadyH.nil
            exact AllReadyH.nil
          exact AllReadyH.nil
    · obtain rfl : j = R := by omega
      have HOKR := Lib.hid (show okR rows zs (j : Int) = true from by rw [HEQ.out.1, Nat.sub_self]; rfl)
      have HFIN := Lib.hid (show fin rows zs (j : Int) = st from by rw [HEQ.out.2, Nat.sub_self]; rfl)
      obtain ⟨p3, q3, hf3, _, _, _⟩ := (OwnI.of hom).slice
      subst hf3
      obtain ⟨y0, y1, _, _⟩ := hq
      have HOV := Lib.hid hov
      have HOM := Lib.hid (OwnI.of hom)
      have HAP := Lib.hid hap
      clear hov hom hap hmb
      have x1_0 := cell_below HBl.out HX.out.2.2.1 (by omega)
      have x1_1 := cell_below HBl.out HX.out.2.2.2.1 (by omega)
      have f1_0 := fro_below HBl.out HX.out.2.2.2.2.1 (by omega)
      have f1_1 := fro_below HBl.out HX.out.2.2.2.2.2 (by omega)
      have HPO := Lib.hid (show ∀ e w', RetPIB st.p.1 st.p.2 st.mi true w e w' → ((okR rows zs (j : Int) = true → RetPIB (fin rows zs (j : Int)).p.1 (fin rows zs (j : Int)).p.2 (fin rows zs (j : Int)).mi true w e w') ∧ (okR rows zs (j : Int) = false → RetPIB [] 0 [] false w e w')) from fun e w' h => ⟨fun _ => by rw [HFIN.out]; exact h, fun h2 => by rw [HOKR.out] at h2; cases h2⟩)
      obtain ⟨⟨ws, b⟩, smi, str, spl⟩ := st
      dsimp only at *
      go_wp2_with fail
      refine bodyPost_ret (v := .tuple #[.agg #[.slice pv ws.length qv, .int .i64 b], .slice p3 smi.length q3, .bool true]) (by simp [results, Try.results112, go_sem, x1_0, x1_1]) rfl (HPO.out _ _ ⟨_, _, rfl, ?_, ?_, HAP.out, ?_⟩)
      · simp only [size_set]; exact ((HOV.out.set (by simp; omega) _).set (by simp; omega) _).mono (by omega) (Nat.le_refl _)
      · simp only [size_set]; exact ((HOM.out.set (by simp; omega) _).set (by simp; omega) _).mono (by omega) (Nat.le_refl _)
      · exact ((HBC.out.trans (HBl.out.mono (by omega))).setCell (by simp) _).setCell (by simp) _
end Go.Proofs.Ytocbklmkphgkeaa.walkr
