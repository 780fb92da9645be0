/- The walks of the model's and the program's PlaneOfCounts. -/
import Derived.Test.YtocbklmkphgkeaaStep
import Derived.Test.YtocbklmkphgkeaaMargin
import Derived.Test.YtocbklmkphgkeaaRange
import Derived.Test.YtocbklmkphgkeaaKept
namespace Go.Proofs.Ytocbklmkphgkeaa.counts
open Go.RowKit own own1 pp nums dots fill step range kept samplest samplesv planes
set_option linter.unusedVariables false
set_option linter.unusedSimpArgs false
attribute [local go_sem ↓] Go.wp_at_zero Go.wp_at_succ

theorem fro_old {w : World} (O : Obj) {b o : Nat} (hb : b < w.heap.size) (hx : w.frozen? ⟨b, o, none⟩ = false) : (w.alloc O).frozen? ⟨b, o, none⟩ = false := fro_below (below_alloc w O) hx hb
/-- The sum of the first i points, each times its label and its count, and of the labels so. -/
def cw (rows : List (List Int)) (zs cs : List Int) (d : Nat) : Nat → List Int
  | 0 => List.replicate d 0
  | i + 1 => added (cw rows zs cs d i) (rows.getD i []) (zs.getD i 0 * cs.getD i 0)
def cb (zs cs : List Int) : Nat → Int
  | 0 => 0
  | i + 1 => cb zs cs i - zs.getD i 0 * cs.getD i 0
theorem cw_length (rows : List (List Int)) (zs cs : List Int) (d i : Nat) : (cw rows zs cs d i).length = d := by
  induction i with
  | zero => simp [cw]
  | succ i ih => unfold cw; rw [added_length, ih]
structure CF (rows : List (List Int)) (zs cs : List Int) (d n : Nat) : Prop where
  len : ∀ i, i < n → (rows.getD i []).length = d
  nums : ∀ i, i < n → numsB 9 (rows.getD i []) = true
  lab : ∀ i, i < n → zs.getD i 0 = 1 ∨ zs.getD i 0 = -1
theorem t_bd {z c : Int} (hz : z = 1 ∨ z = -1) (hc : 0 ≤ c ∧ c ≤ 999) : -999 ≤ z * c ∧ z * c ≤ 999 := by
  rcases hz with rfl | rfl <;> omega
theorem cw_bd {rows : List (List Int)} {zs cs : List Int} {d n : Nat} (h : CF rows zs cs d n) (i : Nat) (hi : i ≤ n) (hc : ∀ j, j < i → 0 ≤ cs.getD j 0 ∧ cs.getD j 0 ≤ 999) :
    (∀ j, j < d → -(8991 * (i : Int)) ≤ (cw rows zs cs d i).getD j 0 ∧ (cw rows zs cs d i).getD j 0 ≤ 8991 * (i : Int)) ∧ -(999 * (i : Int)) ≤ cb zs cs i ∧ cb zs cs i ≤ 999 * (i : Int) := by
  induction i with
  | zero =>
    refine ⟨fun j hj => ?_, by simp [cb]⟩
    unfold cw
    rw [List.getD_eq_getElem?_getD, List.getElem?_replicate, if_pos hj]
    simp
  | succ i ih =>
    obtain ⟨h1, h2⟩ := ih (by omega) (fun j hj => hc j (by omega))
    have ht := t_bd (h.lab i (by omega)) (hc i (by omega))
    constructor
    · intro j hj
      unfold cw
      rw [added_getD _ _ _ _ (by rw [cw_length]; exact hj)]
      unfold addAt
      have a := h1 j hj
      have b := numsB_at (h.nums i (by omega)) j (by rw [h.len i (by omega)]; exact hj)
      have c := mul_bd (A := 999) (B := 9) ht.1 ht.2 b.1 b.2
      omega
    · unfold cb
      omega
theorem cw_fit {rows : List (List Int)} {zs cs : List Int} {d n : Nat} (h : CF rows zs cs d n) (hd : 1 ≤ d ∧ d ≤ 4) (hn : n ≤ 16) (i : Nat) (hi : i < n) (hc : ∀ j, j < i + 1 → 0 ≤ cs.getD j 0 ∧ cs.getD j 0 ≤ 999) :
    Fit (cw rows zs cs d i) (rows.getD i []) (cb zs cs i) (zs.getD i 0 * cs.getD i 0) := by
  obtain ⟨h1, h2⟩ := cw_bd h i (by omega) (fun j hj => hc j (by omega))
  have ht := t_bd (h.lab i hi) (hc i (by omega))
  refine ⟨by rw [cw_length]; exact h.len i hi, by rw [cw_length]; exact hd.1, by rw [cw_length]; exact hd.2, ?_, h.nums i hi, by omega, by omega⟩
  apply all_true _ 0
  intro j hj
  rw [cw_length] at hj
  have := h1 j hj
  exact (inB_iff _ _).2 (by omega)
/-- What the counts must be, and whether their plane is one. -/
def cntB (rows : List (List Int)) (zs cs : List Int) : Bool := margin.hpB rows zs && decide (cs.length = rows.length) && numsR 0 999 cs
def pcW (rows : List (List Int)) (zs cs : List Int) : List Int := cw rows zs cs (rows.getD 0 []).length rows.length
def pcB (rows : List (List Int)) (zs cs : List Int) : Bool := cntB rows zs cs && planeB (pcW rows zs cs) (cb zs cs rows.length)
theorem cf_of {rows : List (List Int)} {zs cs : List Int} (h : margin.hpB rows zs = true) : CF rows zs cs (rows.getD 0 []).length rows.length ∧ (1 ≤ (rows.getD 0 []).length ∧ (rows.getD 0 []).length ≤ 4) ∧ rows.length ≤ 16 ∧ zs.length = rows.length ∧ 0 < rows.length := by
  obtain ⟨h1, h2⟩ := (margin.hpB_iff _ _).1 h
  obtain ⟨s1, s2, s3, s4⟩ := (sampleB_iff _ _).1 h1
  have hr : ∀ k, k < rows.length → pointB (rows.getD k []) = true ∧ (rows.getD k []).length = (rows.getD 0 []).length := by
    intro k hk
    have := all_at _ [] rows s4 k hk
    simpa using this
  have p0 := (pointB_iff _).1 (hr 0 h2).1
  exact ⟨⟨fun i hi => (hr i hi).2, fun i hi => ((pointB_iff _).1 (hr i hi).1).2.2, fun i hi => (labelB_iff _).1 (all_at _ 0 zs s3 i (by omega))⟩, ⟨p0.1, p0.2.1⟩, s1, s2, h2⟩

theorem cell_setO {w : World} {b : Nat} {x u : Value} (h : w.cell? ⟨b, 0, none⟩ = some x) : (w.setCell ⟨b, 1, none⟩ u).cell? ⟨b, 0, none⟩ = some x := (World.cell?_setCell_other _ _ _ _ (by simp)).trans h
set_option maxRecDepth 100000 in
set_option maxHeartbeats 4000000 in
theorem spec_no1 (a : Option Addr) (rows : List (List Int)) (c : Nat) (a' : Option Addr) (zs : List Int) (c' : Nat) (p : Option Addr) (cs : List Int) (q : Nat) (w : World) (hr : grid.Reads w a rows) (hz : ints.Reads .i64 w a' zs) (hq : ints.Reads .i64 w p cs) (hn : rows.length ≤ 1048576) (hk : zs.length ≤ 1048576) (hm : ∀ r ∈ rows, r.length ≤ 1048576) (hw : cs.length ≤ 1048576) (h : Hid (sampleB rows zs = false)) :
    Calls Try.prog 59 #[.agg #[.slice a rows.length c, .slice a' zs.length c'], .slice p cs.length q] w (RetPB [] 0 false w) := by
  have HMM := Lib.hid hm
  clear hm
  have Hhr := Lib.hid hr
  have Hhz := Lib.hid hz
  have Hhq := Lib.hid hq
  clear hr hz hq
  go_enter Try.func59, Try.ntmps59
  go_wp2_with fail
  have x0_0 : (w.alloc (.cells #[.slice a rows.length c, .slice a' zs.length c'] 27)).cell? ⟨w.heap.size, 0, none⟩ = some (.slice a rows.length c) := cell_new _ _ _ (by simp) rfl
  have x0_1 : (w.alloc (.cells #[.slice a rows.length c, .slice a' zs.length c'] 27)).cell? ⟨w.heap.size, 1, none⟩ = some (.slice a' zs.length c') := cell_new _ _ _ (by simp) rfl
  have HB0 := Lib.hid (below_alloc w (.cells #[.slice a rows.length c, .slice a' zs.length c'] 27))
  replace x0_0 := cell_old (.cells #[.slice none 0 0, .int .i64 0] 46) x0_0
  replace x0_1 := cell_old (.cells #[.slice none 0 0, .int .i64 0] 46) x0_1
  have x1_0 : ((w.alloc (.cells #[.slice a rows.length c, .slice a' zs.length c'] 27)).alloc (.cells #[.slice none 0 0, .int .i64 0] 46)).cell? ⟨w.heap.size + 1, 0, none⟩ = some (.slice none 0 0) := cell_new _ _ _ (by simp) rfl
  have x1_1 : ((w.alloc (.cells #[.slice a rows.length c, .slice a' zs.length c'] 27)).alloc (.cells #[.slice none 0 0, .int .i64 0] 46)).cell? ⟨w.heap.size + 1, 1, none⟩ = some (.int .i64 0) := cell_new _ _ _ (by simp) rfl
  have f1_0 : ((w.alloc (.cells #[.slice a rows.length c, .slice a' zs.length c'] 27)).alloc (.cells #[.slice none 0 0, .int .i64 0] 46)).frozen? ⟨w.heap.size + 1, 0, none⟩ = false := fro_new _ _ _ (by simp)
  have f1_1 : ((w.alloc (.cells #[.slice a rows.length c, .slice a' zs.length c'] 27)).alloc (.cells #[.slice none 0 0, .int .i64 0] 46)).frozen? ⟨w.heap.size + 1, 1, none⟩ = false := fro_new _ _ _ (by simp)
  replace HB0 := Lib.hid (HB0.out.alloc (by simp) (.cells #[.slice none 0 0, .int .i64 0] 46))
  have s0 : w.heap.size + 2 ≤ ((w.alloc (.cells #[.slice a rows.length c, .slice a' zs.length c'] 27)).alloc (.cells #[.slice none 0 0, .int .i64 0] 46)).heap.size := by simp
  generalize hw : ((w.alloc (.cells #[.slice a rows.length c, .slice a' zs.length c'] 27)).alloc (.cells #[.slice none 0 0, .int .i64 0] 46)) = w0 at *
  clear hw
  have n0_0 : w.heap.size < w0.heap.size := by omega
  have n0_1 : w.heap.size + 1 < w0.heap.size := by omega
  refine (spec_sample a rows c a' zs c' _ (Hhr.out.below HB0.out) (Hhz.out.below HB0.out) hn hk HMM.out false h).mono ?_
  rintro e w1 ⟨rfl, hb⟩
  have s1 : w0.heap.size ≤ w1.heap.size := hb.size
  have n1_0 : w.heap.size < w1.heap.size := by omega
  have n1_1 : w.heap.size + 1 < w1.heap.size := by omega
  replace x0_0 := cell_below hb x0_0 (by omega)
  replace x0_1 := cell_below hb x0_1 (by omega)
  replace x1_0 := cell_below hb x1_0 (by omega)
  replace x1_1 := cell_below hb x1_1 (by omega)
  replace f1_0 := fro_below hb f1_0 (by omega)
  replace f1_1 := fro_below hb f1_1 (by omega)
  have HB1 := Lib.hid (HB0.out.trans (hb.mono (by omega)))
  clear hb
  go_wp2_with fail
  refine bodyPost_ret (v := .tuple #[.agg #[.slice none 0 0, .int .i64 0], .bool false]) (by simp [results, Try.results59, go_sem, x1_0, x1_1]) rfl ⟨_, rfl, OwnI.nil _ _ _, ?_⟩
  first | exact ((HB1.out.setCell (by simp) _).setCell (by simp) _) | exact HB1.out
set_option maxRecDepth 100000 in
set_option maxHeartbeats 4000000 in
theorem spec_no2 (a : Option Addr) (rows : List (List Int)) (c : Nat) (a' : Option Addr) (zs : List Int) (c' : Nat) (p : Option Addr) (cs : List Int) (q : Nat) (w : World) (hr : grid.Reads w a rows) (hz : ints.Reads .i64 w a' zs) (hq : ints.Reads .i64 w p cs) (hn : rows.length ≤ 1048576) (hk : zs.length ≤ 1048576) (hm : ∀ r ∈ rows, r.length ≤ 1048576) (hw : cs.length ≤ 1048576) (h1 : Hid (sampleB rows zs = true)) (h : rows.length = 0) :
    Calls Try.prog 59 #[.agg #[.slice a rows.length c, .slice a' zs.length c'], .slice p cs.length q] w (RetPB [] 0 false w) := by
  have HMM := Lib.hid hm
  clear hm
  have g0 : ((rows.length : Int) == 0) = true := by rw [beq_iff_eq]; omega
  clear h
  have Hhr := Lib.hid hr
  have Hhz := Lib.hid hz
  have Hhq := Lib.hid hq
  clear hr hz hq
  go_enter Try.func59, Try.ntmps59
  go_wp2_with fail
  have x0_0 : (w.alloc (.cells #[.slice a rows.length c, .slice a' zs.length c'] 27)).cell? ⟨w.heap.size, 0, none⟩ = some (.slice a rows.length c) := cell_new _ _ _ (by simp) rfl
  have x0_1 : (w.alloc (.cells #[.slice a rows.length c, .slice a' zs.length c'] 27)).cell? ⟨w.heap.size, 1, none⟩ = some (.slice a' zs.length c') := cell_new _ _ _ (by simp) rfl
  have HB0 := Lib.hid (below_alloc w (.cells #[.slice a rows.length c, .slice a' zs.length c'] 27))
  replace x0_0 := cell_old (.cells #[.slice none 0 0, .int .i64 0] 46) x0_0
  replace x0_1 := cell_old (.cells #[.slice none 0 0, .int .i64 0] 46) x0_1
  have x1_0 : ((w.alloc (.cells #[.slice a rows.length c, .slice a' zs.length c'] 27)).alloc (.cells #[.slice none 0 0, .int .i64 0] 46)).cell? ⟨w.heap.size + 1, 0, none⟩ = some (.slice none 0 0) := cell_new _ _ _ (by simp) rfl
  have x1_1 : ((w.alloc (.cells #[.slice a rows.length c, .slice a' zs.length c'] 27)).alloc (.cells #[.slice none 0 0, .int .i64 0] 46)).cell? ⟨w.heap.size + 1, 1, none⟩ = some (.int .i64 0) := cell_new _ _ _ (by simp) rfl
  have f1_0 : ((w.alloc (.cells #[.slice a rows.length c, .slice a' zs.length c'] 27)).alloc (.cells #[.slice none 0 0, .int .i64 0] 46)).frozen? ⟨w.heap.size + 1, 0, none⟩ = false := fro_new _ _ _ (by simp)
  have f1_1 : ((w.alloc (.cells #[.slice a rows.length c, .slice a' zs.length c'] 27)).alloc (.cells #[.slice none 0 0, .int .i64 0] 46)).frozen? ⟨w.heap.size + 1, 1, none⟩ = false := fro_new _ _ _ (by simp)
  replace HB0 := Lib.hid (HB0.out.alloc (by simp) (.cells #[.slice none 0 0, .int .i64 0] 46))
  have s0 : w.heap.size + 2 ≤ ((w.alloc (.cells #[.slice a rows.length c, .slice a' zs.length c'] 27)).alloc (.cells #[.slice none 0 0, .int .i64 0] 46)).heap.size := by simp
  generalize hw : ((w.alloc (.cells #[.slice a rows.length c, .slice a' zs.length c'] 27)).alloc (.cells #[.slice none 0 0, .int .i64 0] 46)) = w0 at *
  clear hw
  have n0_0 : w.heap.size < w0.heap.size := by omega
  have n0_1 : w.heap.size + 1 < w0.heap.size := by omega
  refine (spec_sample a rows c a' zs c' _ (Hhr.out.below HB0.out) (Hhz.out.below HB0.out) hn hk HMM.out true h1).mono ?_
  rintro e w1 ⟨rfl, hb⟩
  have s1 : w0.heap.size ≤ w1.heap.size := hb.size
  have n1_0 : w.heap.size < w1.heap.size := by omega
  have n1_1 : w.heap.size + 1 < w1.heap.size := by omega
  replace x0_0 := cell_below hb x0_0 (by omega)
  replace x0_1 := cell_below hb x0_1 (by omega)
  replace x1_0 := cell_below hb x1_0 (by omega)
  replace x1_1 := cell_below hb x1_1 (by omega)
  replace f1_0 := fro_below hb f1_0 (by omega)
  replace f1_1 := fro_below hb f1_1 (by omega)
  have HB1 := Lib.hid (HB0.out.trans (hb.mono (by omega)))
  clear hb
  go_wp2_with fail
  refine bodyPost_ret (v := .tuple #[.agg #[.slice none 0 0, .int .i64 0], .bool false]) (by simp [results, Try.results59, go_sem, x1_0, x1_1]) rfl ⟨_, rfl, OwnI.nil _ _ _, ?_⟩
  first | exact ((HB1.out.setCell (by simp) _).setCell (by simp) _) | exact HB1.out
set_option maxRecDepth 100000 in
set_option maxHeartbeats 4000000 in
theorem spec_no3 (a : Option Addr) (rows : List (List Int)) (c : Nat) (a' : Option Addr) (zs : List Int) (c' : Nat) (p : Option Addr) (cs : List Int) (q : Nat) (w : World) (hr : grid.Reads w a rows) (hz : ints.Reads .i64 w a' zs) (hq : ints.Reads .i64 w p cs) (hn : rows.length ≤ 1048576) (hk : zs.length ≤ 1048576) (hm : ∀ r ∈ rows, r.length ≤ 1048576) (hw : cs.length ≤ 1048576) (h1 : Hid (sampleB rows zs = true)) (h : 0 < rows.length) (hl : cs.length ≠ rows.length) :
    Calls Try.prog 59 #[.agg #[.slice a rows.length c, .slice a' zs.length c'], .slice p cs.length q] w (RetPB [] 0 false w) := by
  have HMM := Lib.hid hm
  clear hm
  have g0 : ((rows.length : Int) == 0) = false := by rw [beq_eq_false_iff_ne]; omega
  have g1 : ((cs.length : Int) != (rows.length : Int)) = true := by rw [bne_iff_ne]; omega
  clear h hl
  have Hhr := Lib.hid hr
  have Hhz := Lib.hid hz
  have Hhq := Lib.hid hq
  clear hr hz hq
  go_enter Try.func59, Try.ntmps59
  go_wp2_with fail
  have x0_0 : (w.alloc (.cells #[.slice a rows.length c, .slice a' zs.length c'] 27)).cell? ⟨w.heap.size, 0, none⟩ = some (.slice a rows.length c) := cell_new _ _ _ (by simp) rfl
  have x0_1 : (w.alloc (.cells #[.slice a rows.length c, .slice a' zs.length c'] 27)).cell? ⟨w.heap.size, 1, none⟩ = some (.slice a' zs.length c') := cell_new _ _ _ (by simp) rfl
  have HB0 := Lib.hid (below_alloc w (.cells #[.slice a rows.length c, .slice a' zs.length c'] 27))
  replace x0_0 := cell_old (.cells #[.slice none 0 0, .int .i64 0] 46) x0_0
  replace x0_1 := cell_old (.cells #[.slice none 0 0, .int .i64 0] 46) x0_1
  have x1_0 : ((w.alloc (.cells #[.slice a rows.length c, .slice a' zs.length c'] 27)).alloc (.cells #[.slice none 0 0, .int .i64 0] 46)).cell? ⟨w.heap.size + 1, 0, none⟩ = some (.slice none 0 0) := cell_new _ _ _ (by simp) rfl
  have x1_1 : ((w.alloc (.cells #[.slice a rows.length c, .slice a' zs.length c'] 27)).alloc (.cells #[.slice none 0 0, .int .i64 0] 46)).cell? ⟨w.heap.size + 1, 1, none⟩ = some (.int .i64 0) := cell_new _ _ _ (by simp) rfl
  have f1_0 : ((w.alloc (.cells #[.slice a rows.length c, .slice a' zs.length c'] 27)).alloc (.cells #[.slice none 0 0, .int .i64 0] 46)).frozen? ⟨w.heap.size + 1, 0, none⟩ = false := fro_new _ _ _ (by simp)
  have f1_1 : ((w.alloc (.cells #[.slice a rows.length c, .slice a' zs.length c'] 27)).alloc (.cells #[.slice none 0 0, .int .i64 0] 46)).frozen? ⟨w.heap.size + 1, 1, none⟩ = false := fro_new _ _ _ (by simp)
  replace HB0 := Lib.hid (HB0.out.alloc (by simp) (.cells #[.slice none 0 0, .int .i64 0] 46))
  have s0 : w.heap.size + 2 ≤ ((w.alloc (.cells #[.slice a rows.length c, .slice a' zs.length c'] 27)).alloc (.cells #[.slice none 0 0, .int .i64 0] 46)).heap.size := by simp
  generalize hw : ((w.alloc (.cells #[.slice a rows.length c, .slice a' zs.length c'] 27)).alloc (.cells #[.slice none 0 0, .int .i64 0] 46)) = w0 at *
  clear hw
  have n0_0 : w.heap.size < w0.heap.size := by omega
  have n0_1 : w.heap.size + 1 < w0.heap.size := by omega
  refine (spec_sample a rows c a' zs c' _ (Hhr.out.below HB0.out) (Hhz.out.below HB0.out) hn hk HMM.out true h1).mono ?_
  rintro e w1 ⟨rfl, hb⟩
  have s1 : w0.heap.size ≤ w1.heap.size := hb.size
  have n1_0 : w.heap.size < w1.heap.size := by omega
  have n1_1 : w.heap.size + 1 < w1.heap.size := by omega
  replace x0_0 := cell_below hb x0_0 (by omega)
  replace x0_1 := cell_below hb x0_1 (by omega)
  replace x1_0 := cell_below hb x1_0 (by omega)
  replace x1_1 := cell_below hb x1_1 (by omega)
  replace f1_0 := fro_below hb f1_0 (by omega)
  replace f1_1 := fro_below hb f1_1 (by omega)
  have HB1 := Lib.hid (HB0.out.trans (hb.mono (by omega)))
  clear hb
  go_wp2_with fail
  refine bodyPost_ret (v := .tuple #[.agg #[.slice none 0 0, .int .i64 0], .bool false]) (by simp [results, Try.results59, go_sem, x1_0, x1_1]) rfl ⟨_, rfl, OwnI.nil _ _ _, ?_⟩
  first | exact ((HB1.out.setCell (by simp) _).setCell (by simp) _) | exact HB1.out
set_option maxRecDepth 100000 in
set_option maxHeartbeats 4000000 in
theorem spec_bad (a : Option Addr) (rows : List (List Int)) (c : Nat) (a' : Option Addr) (zs : List Int) (c' : Nat) (p : Option Addr) (cs : List Int) (q : Nat) (w : World) (hr : grid.Reads w a rows) (hz : ints.Reads .i64 w a' zs) (hq : ints.Reads .i64 w p cs) (hn : rows.length ≤ 1048576) (hk : zs.length ≤ 1048576) (hm : ∀ r ∈ rows, r.length ≤ 1048576) (hw : cs.length ≤ 1048576) (hp : Hid (margin.hpB rows zs = true)) (hl : cs.length = rows.length) (h : Hid (numsR 0 999 cs = false)) :
    Calls Try.prog 59 #[.agg #[.slice a rows.length c, .slice a' zs.length c'], .slice p cs.length q] w (RetPB [] 0 false w) := by
  have HMM := Lib.hid hm
  clear hm
  obtain ⟨i0, hi, hz0, hz1, hz2⟩ := info_parts infoInt
  obtain ⟨hcf, hd, s16, hzl, hpos⟩ := cf_of (cs := cs) hp.out
  have h1 := Lib.hid ((margin.hpB_iff _ _).1 hp.out).1
  have HCF := Lib.hid hcf
  have HD4 := Lib.hid hd
  have HLn := Lib.hid hzl
  have HLC := Lib.hid hl
  have g0 : ((rows.length : Int) == 0) = false := by rw [beq_eq_false_iff_ne]; omega
  have g1 : ((cs.length : Int) != (rows.length : Int)) = false := by rw [bne_eq_false_iff_eq]; omega
  clear hcf hd hzl hl
  have Hhr := Lib.hid hr
  have Hhz := Lib.hid hz
  have Hhq := Lib.hid hq
  clear hr hz hq
  go_enter Try.func59, Try.ntmps59
  go_wp2_with fail
  have x0_0 : (w.alloc (.cells #[.slice a rows.length c, .slice a' zs.length c'] 27)).cell? ⟨w.heap.size, 0, none⟩ = some (.slice a rows.length c) := cell_new _ _ _ (by simp) rfl
  have x0_1 : (w.alloc (.cells #[.slice a rows.length c, .slice a' zs.length c'] 27)).cell? ⟨w.heap.size, 1, none⟩ = some (.slice a' zs.length c') := cell_new _ _ _ (by simp) rfl
  have HB0 := Lib.hid (below_alloc w (.cells #[.slice a rows.length c, .slice a' zs.length c'] 27))
  replace x0_0 := cell_old (.cells #[.slice none 0 0, .int .i64 0] 46) x0_0
  replace x0_1 := cell_old (.cells #[.slice none 0 0, .int .i64 0] 46) x0_1
  have x1_0 : ((w.alloc (.cells #[.slice a rows.length c, .slice a' zs.length c'] 27)).alloc (.cells #[.slice none 0 0, .int .i64 0] 46)).cell? ⟨w.heap.size + 1, 0, none⟩ = some (.slice none 0 0) := cell_new _ _ _ (by simp) rfl
  have x1_1 : ((w.alloc (.cells #[.slice a rows.length c, .slice a' zs.length c'] 27)).alloc (.cells #[.slice none 0 0, .int .i64 0] 46)).cell? ⟨w.heap.size + 1, 1, none⟩ = some (.int .i64 0) := cell_new _ _ _ (by simp) rfl
  have f1_0 : ((w.alloc (.cells #[.slice a rows.length c, .slice a' zs.length c'] 27)).alloc (.cells #[.slice none 0 0, .int .i64 0] 46)).frozen? ⟨w.heap.size + 1, 0, none⟩ = false := fro_new _ _ _ (by simp)
  have f1_1 : ((w.alloc (.cells #[.slice a rows.length c, .slice a' zs.length c'] 27)).alloc (.cells #[.slice none 0 0, .int .i64 0] 46)).frozen? ⟨w.heap.size + 1, 1, none⟩ = false := fro_new _ _ _ (by simp)
  replace HB0 := Lib.hid (HB0.out.alloc (by simp) (.cells #[.slice none 0 0, .int .i64 0] 46))
  have s0 : w.heap.size + 2 ≤ ((w.alloc (.cells #[.slice a rows.length c, .slice a' zs.length c'] 27)).alloc (.cells #[.slice none 0 0, .int .i64 0] 46)).heap.size := by simp
  generalize hw : ((w.alloc (.cells #[.slice a rows.length c, .slice a' zs.length c'] 27)).alloc (.cells #[.slice none 0 0, .int .i64 0] 46)) = w0 at *
  clear hw
  have n0_0 : w.heap.size < w0.heap.size := by omega
  have n0_1 : w.heap.size + 1 < w0.heap.size := by omega
  refine (spec_sample a rows c a' zs c' _ (Hhr.out.below HB0.out) (Hhz.out.below HB0.out) hn hk HMM.out true h1).mono ?_
  rintro e w1 ⟨rfl, hb⟩
  have s1 : w0.heap.size ≤ w1.heap.size := hb.size
  have n1_0 : w.heap.size < w1.heap.size := by omega
  have n1_1 : w.heap.size + 1 < w1.heap.size := by omega
  replace x0_0 := cell_below hb x0_0 (by omega)
  replace x0_1 := cell_below hb x0_1 (by omega)
  replace x1_0 := cell_below hb x1_0 (by omega)
  replace x1_1 := cell_below hb x1_1 (by omega)
  replace f1_0 := fro_below hb f1_0 (by omega)
  replace f1_1 := fro_below hb f1_1 (by omega)
  have HB1 := Lib.hid (HB0.out.trans (hb.mono (by omega)))
  clear hb
  obtain ⟨bl, off, rp0, rq0, hab, hbl, hc0, _, _⟩ := (Hhr.out.below HB1.out).at hpos
  subst hab
  rw [Nat.add_zero] at hc0
  have HX := Lib.hid (show w1.cell? ⟨w.heap.size, 0, none⟩ = some (.slice (some ⟨bl, off, none⟩) rows.length c) ∧ w1.cell? ⟨w.heap.size, 1, none⟩ = some (.slice a' zs.length c') from ⟨x0_0, x0_1⟩)
  have HR := Lib.hid (show w1.cell? ⟨w.heap.size + 1, 0, none⟩ = some (.slice none 0 0) ∧ w1.cell? ⟨w.heap.size + 1, 1, none⟩ = some (.int .i64 0) ∧ w1.frozen? ⟨w.heap.size + 1, 0, none⟩ = false ∧ w1.frozen? ⟨w.heap.size + 1, 1, none⟩ = false from ⟨x1_0, x1_1, f1_0, f1_1⟩)
  generalize hr0 : rows.getD 0 [] = r0 at *
  have hd4 := HD4.out
  go_wp2_with (refine wpList_make_full _ rfl _ _ 23 rfl w1.heap.size 3 i0 (.int .i64 0) 1 Try.underlying23 hi hz0 hz1 .i64 .i64 _ _ r0.length rfl rfl rfl rfl (by rw [hz2]; omega) (by unfold maxLen; omega) (Nat.le_refl _) ?_; intro w3 hown1 hgrow1; refine Hid.out ?_)
  refine Lib.hid ?_
  have hb3 : Below w1.heap.size w1 w3 := (Below.refl _ _).grown hgrow1 (Nat.le_refl _) (by simp)
  rw [show (Value.int .i64 0).cells = #[Value.int .i64 0] from rfl, Nat.mul_one, toList_madeCells_one] at hown1
  have hlt3 := hown1.lt w1.heap.size rfl
  have HO3 := Lib.hid (show w3.ownsRow w1.heap.size 3 1 (.slice (some ⟨w1.heap.size, 0, none⟩) r0.length r0.length) r0.length ((cw rows zs cs r0.length 0).map (Value.int .i64)) from by unfold cw; rw [List.map_replicate]; exact hown1)
  clear hown1 hgrow1 hc0 x0_0 x0_1 x1_0 x1_1 f1_0 f1_1
  go_wp2_with fail
  obtain ⟨B, hB⟩ : ∃ B, B = w3.heap.size := ⟨_, rfl⟩
  have HST := Lib.hid (show (w3.alloc (.cells #[.slice (some ⟨w1.heap.size, 0, none⟩) r0.length r0.length, .int .i64 0] 46)).ownsRow w1.heap.size 3 1 (.slice (some ⟨w1.heap.size, 0, none⟩) r0.length r0.length) r0.length ((cw rows zs cs r0.length 0).map (Value.int .i64)) ∧ ((w3.alloc (.cells #[.slice (some ⟨w1.heap.size, 0, none⟩) r0.length r0.length, .int .i64 0] 46)).cell? ⟨B, 0, none⟩ = some (.slice (some ⟨w1.heap.size, 0, none⟩) r0.length r0.length) ∧ (w3.alloc (.cells #[.slice (some ⟨w1.heap.size, 0, none⟩) r0.length r0.length, .int .i64 0] 46)).cell? ⟨B, 1, none⟩ = some (.int .i64 (cb zs cs 0)) ∧ (w3.alloc (.cells #[.slice (some ⟨w1.heap.size, 0, none⟩) r0.length r0.length, .int .i64 0] 46)).frozen? ⟨B, 1, none⟩ = false ∧ B < (w3.alloc (.cells #[.slice (some ⟨w1.heap.size, 0, none⟩) r0.length r0.length, .int .i64 0] 46)).heap.size) ∧ Below w1.heap.size w1 (w3.alloc (.cells #[.slice (some ⟨w1.heap.size, 0, none⟩) r0.length r0.length, .int .i64 0] 46)) from ⟨HO3.out.alloc _, ⟨cell_new _ _ _ hB rfl, cell_new _ _ _ hB rfl, fro_new _ _ _ hB, by rw [hB]; simp⟩, hb3.alloc (by omega) _⟩)
  rw [← hB]
  have hGB : w1.heap.size < B := by omega
  generalize w3.alloc (.cells #[.slice (some ⟨w1.heap.size, 0, none⟩) r0.length r0.length, .int .i64 0] 46) = w4 at *
  clear HO3 hlt3 hB hb3
  go_loopw [7] (fun i wr => ∃ k : Nat, k ≤ cs.length ∧ i = .int .i64 k ∧ Hid (wr.ownsRow w1.heap.size 3 1 (.slice (some ⟨w1.heap.size, 0, none⟩) r0.length r0.length) r0.length ((cw rows zs cs r0.length k).map (Value.int .i64)) ∧ (wr.cell? ⟨B, 0, none⟩ = some (.slice (some ⟨w1.heap.size, 0, none⟩) r0.length r0.length) ∧ wr.cell? ⟨B, 1, none⟩ = some (.int .i64 (cb zs cs k)) ∧ wr.frozen? ⟨B, 1, none⟩ = false ∧ B < wr.heap.size) ∧ Below w1.heap.size w1 wr) ∧ Hid (∀ j, j < k → 0 ≤ cs.getD j 0 ∧ cs.getD j 0 ≤ 999)) (fun i _ => cs.length - (intOf i).toNat)
  case atStart => exact ⟨0, Nat.zero_le _, rfl, HST, fun j hj => by omega⟩
  case round =>
    obtain ⟨k, hk', rfl, HS, HJ⟩ := hrel
    clear HST
    have hbel := HS.out.2.2
    have hsz := hbel.size
    by_cases hlt : k < cs.length
    · have hkr : k < rows.length := by have := HLC.out; omega
      obtain ⟨qb, qo, hqb, hql, hqc⟩ := (Hhq.out.below HB1.out).at hlt
      subst hqb
      have HQC := Lib.hid (show w1.cell? ⟨qb, qo + k, none⟩ = some (.int .i64 (cs.getD k 0)) ∧ qb < w1.heap.size from ⟨hqc, hql⟩)
      replace hqc := cell_below hbel hqc (by omega)
      have i1 : (0 : Int) ≤ (k : Int) := by omega
      have i2 : (k : Int) < (cs.length : Int) := by omega
      by_cases hx9 : inR 0 999 (cs.getD k 0) = false
      · have HX2 := Lib.hid hx9
        unfold inR at HX2
        have x1_0 := cell_below hbel HR.out.1 (by omega)
        have x1_1 := cell_below hbel HR.out.2.1 (by omega)
        have f1_0 := fro_below hbel HR.out.2.2.1 (by omega)
        have f1_1 := fro_below hbel HR.out.2.2.2 (by omega)
        have HBE := Lib.hid (HB1.out.trans (hbel.mono (by omega)))
        clear hx9 HS HJ hbel
        generalize cs.getD k 0 = cc at *
        go_wp2_with fail
        refine (in_any _ _ _ _ false HX2).mono ?_
        rintro e w' ⟨rfl, rfl⟩
        go_wp2_with fail
        refine bodyPost_ret (v := .tuple #[.agg #[.slice none 0 0, .int .i64 0], .bool false]) (by simp [results, Try.results59, go_sem, x1_0, x1_1]) rfl ⟨_, rfl, OwnI.nil _ _ _, ?_⟩
        first | exact ((HBE.out.setCell (by simp) _).setCell (by simp) _) | exact HBE.out
      have hx : inR 0 999 (cs.getD k 0) = true := by cases h9 : inR 0 999 (cs.getD k 0); exact absurd h9 hx9; rfl
      have hin := (inR_iff _ _ _).1 hx
      have HJ2 := Lib.hid (show ∀ j, j < k + 1 → 0 ≤ cs.getD j 0 ∧ cs.getD j 0 ≤ 999 from fun j hj => by
        by_cases e : j = k
        · rw [e]; exact hin
        · exact HJ.out j (by omega))
      have HFt := Lib.hid (cw_fit HCF.out HD4.out s16 k hkr HJ2.out)
      obtain ⟨bl', off', rp, rq, hab, hbl', hc, hpq, hrow⟩ := (Hhr.out.below HB1.out).at hkr
      obtain ⟨rfl, rfl⟩ : bl = bl' ∧ off = off' := by cases hab; exact ⟨rfl, rfl⟩
      obtain ⟨lb, lo, hlb, hll, hlc⟩ := (Hhz.out.below HB1.out).at (k := k) (by have := HLn.out; omega)
      subst hlb
      have HCC := Lib.hid (show w1.cell? ⟨bl, off + k, none⟩ = some (.slice rp (rows.getD k []).length rq) ∧ w1.cell? ⟨lb, lo + k, none⟩ = some (.int .i64 (zs.getD k 0)) ∧ bl < w1.heap.size ∧ lb < w1.heap.size from ⟨hc, hlc, hbl', hll⟩)
      have HROW := Lib.hid hrow
      have HX2 := Lib.hid hx
      unfold inR at HX2
      have HCW := Lib.hid (show added (cw rows zs cs r0.length k) (rows.getD k []) (zs.getD k 0 * cs.getD k 0) = cw rows zs cs r0.length (k + 1) from rfl)
      have HCB := Lib.hid (show cb zs cs k - zs.getD k 0 * cs.getD k 0 = cb zs cs (k + 1) from rfl)
      have HN := Lib.hid (cw_length rows zs cs r0.length k)
      have i3 : (k : Int) < (rows.length : Int) := by omega
      have i4 : (k : Int) < (zs.length : Int) := by have := HLn.out; omega
      have b0 := HS.out.2.1.1
      have HIN := Lib.hid hin
      clear hrow hpq hab hin hx hc hlc HJ
      generalize rows.getD k [] = r at *
      generalize cw rows zs cs r0.length k = vs at *
      generalize cb zs cs k = bb at *
      generalize cs.getD k 0 = cc at *
      generalize zs.getD k 0 = zz at *
      obtain ⟨tt, htt⟩ : ∃ tt, tt = zz * cc := ⟨_, rfl⟩
      rw [← htt] at HFt HCW HCB
      have HE2 := Lib.hid (show IntKind.i64.wrap (cc * zz) = tt from by have := HFt.out.tbd; rw [Int.mul_comm, ← htt]; exact IntWalk.i64_in _ (by omega))
      clear htt hbel
      go_wp2_with fail
      refine (in_any _ _ _ _ true HX2).mono ?_
      rintro e w' ⟨rfl, rfl⟩
      have HSg := HS
      obtain ⟨wo, hwo⟩ : ∃ wo : World, wo = wr := ⟨_, rfl⟩
      go_wp2_with fail
      clear b0 hqc
      go_loopw [8] (fun j wq => ∃ m : Nat, m ≤ r0.length ∧ j = .int .i64 m ∧ Hid (wq.ownsRow w1.heap.size 3 1 (.slice (some ⟨w1.heap.size, 0, none⟩) r0.length r0.length) r0.length ((pf (addAt vs r tt) vs m).map (Value.int .i64)) ∧ (wq.cell? ⟨B, 0, none⟩ = some (.slice (some ⟨w1.heap.size, 0, none⟩) r0.length r0.length) ∧ wq.cell? ⟨B, 1, none⟩ = some (.int .i64 (bb)) ∧ wq.frozen? ⟨B, 1, none⟩ = false ∧ B < wq.heap.size) ∧ Below w1.heap.size w1 wq)) (fun j _ => r0.length - (intOf j).toNat)
      case atStart => exact ⟨0, Nat.zero_le _, rfl, by rw [pf_zero]; exact HS⟩
      case round =>
        obtain ⟨m, hm, rfl, HQ⟩ := hrel
        clear HS HSg
        obtain ⟨hown, ⟨b0, b1, bf, bs⟩, hbq⟩ := HQ.out
        have x0_0 := cell_below hbq HX.out.1 (by omega)
        have x0_1 := cell_below hbq HX.out.2 (by omega)
        have hqc := cell_below hbq HQC.out.1 HQC.out.2
        have hc := cell_below hbq HCC.out.1 HCC.out.2.2.1
        have hlc := cell_below hbq HCC.out.2.1 HCC.out.2.2.2
        have HBq := Lib.hid hbq
        have e2 := HE2.out
        by_cases hmt : m < r0.length
        · obtain ⟨rb, ro, hrb, hrl, hrc⟩ := HROW.out.at (k := m) (by have := HFt.out.len; have := HN.out; omega)
          subst hrb
          replace hrc := cell_below hbq hrc (by omega)
          have hcell := pf_cellN HN.out hown hmt
          have hfro := hown.frozenAt m
          have HST := Lib.hid (pf_storeN HN.out hown hmt (vs.getD m 0 + tt * r.getD m 0) rfl)
          have hbd := HFt.out.at m (by have := HN.out; omega)
          have j1 : (0 : Int) ≤ (m : Int) := by omega
          have j2 : (m : Int) < (r.length : Int) := by have := HFt.out.len; have := HN.out; omega
          have j3 : (m : Int) < (r0.length : Int) := by omega
          have HBX := Lib.hid (show (wr.cell? ⟨B, 0, none⟩ = some (.slice (some ⟨w1.heap.size, 0, none⟩) r0.length r0.length) ∧ wr.cell? ⟨B, 1, none⟩ = some (.int .i64 (bb)) ∧ wr.frozen? ⟨B, 1, none⟩ = false ∧ B < wr.heap.size) from ⟨b0, b1, bf, bs⟩)
          clear hown hbq b1 bf
          generalize vs.getD m 0 = s at *
          generalize r.getD m 0 = x at *
          have e3 : IntKind.i64.wrap (tt * x) = tt * x := IntWalk.i64_in _ (by omega)
          have e4 : IntKind.i64.wrap (s + tt * x) = s + tt * x := IntWalk.i64_in _ (by omega)
          clear hbd
          go_wp2_with fail
          go_still_tail 28, (by kernel_rfl)
          go_wp2_with fail
          go_roundw
          case rel => exact ⟨m + 1, by omega, by go_num, ⟨HST.out, ⟨cell_set HBX.out.1 (by simp; omega) _, cell_set HBX.out.2.1 (by simp; omega) _, by show (World.setCell _ _ _).frozen? _ = false; rw [World.frozen?_setCell]; exact HBX.out.2.2.1, by show B < (World.setCell _ _ _).heap.size; rw [size_set]; exact HBX.out.2.2.2⟩, (HBq.out.setCell (by simp) _).drew⟩⟩
          case measure => simp [intOf]; omega
        · obtain rfl : m = r0.length := by omega
          have hall : pf (addAt vs r tt) vs r0.length = added vs r tt := by have := pf_added vs r tt; rw [HN.out] at this; exact this
          rw [hall, HCW.out] at hown
          have HO2 := Lib.hid hown
          have HBX := Lib.hid (show (wr.cell? ⟨B, 0, none⟩ = some (.slice (some ⟨w1.heap.size, 0, none⟩) r0.length r0.length) ∧ wr.cell? ⟨B, 1, none⟩ = some (.int .i64 (bb)) ∧ wr.frozen? ⟨B, 1, none⟩ = false ∧ B < wr.heap.size) from ⟨b0, b1, bf, bs⟩)
          have e5 : IntKind.i64.wrap (bb - tt) = bb - tt := by have := HFt.out.bbd; have := HFt.out.tbd; exact IntWalk.i64_in _ (by omega)
          clear hown hbq hall hc x0_0
          go_wp2_with fail
          go_still_tail 13, (by kernel_rfl)
          go_wp2_with fail
          go_roundw
          case rel => exact ⟨k + 1, by omega, by go_num, ⟨ownsRow_block HO2.out (fun g e => Below.heap_setCell _ _ _ _ (by have e2 : w1.heap.size = g := (by simpa [Value.ownBlock] using e); simp; omega)), ⟨cell_setO HBX.out.1, by rw [← HCB.out]; exact World.cell?_setCell_same _ _ _ HBX.out.2.1, by show (World.setCell _ _ _).frozen? _ = false; rw [World.frozen?_setCell]; exact HBX.out.2.2.1, by show B < (World.setCell _ _ _).heap.size; rw [size_set]; exact HBX.out.2.2.2⟩, (HBq.out.setCell (by simp; omega) _).drew⟩, HJ2⟩
          case measure => simp [intOf]; omega
    · have hkk : k = cs.length := by omega
      exfalso
      have := h.out
      rw [show numsR 0 999 cs = true from all_true _ 0 cs (fun j hj' => (inR_iff _ _ _).2 (HJ.out j (by omega)))] at this
      cases this
set_option maxRecDepth 100000 in
set_option maxHeartbeats 4000000 in
theorem spec_out (a : Option Addr) (rows : List (List Int)) (c : Nat) (a' : Option Addr) (zs : List Int) (c' : Nat) (p : Option Addr) (cs : List Int) (q : Nat) (w : World) (hr : grid.Reads w a rows) (hz : ints.Reads .i64 w a' zs) (hq : ints.Reads .i64 w p cs) (hn : rows.length ≤ 1048576) (hk : zs.length ≤ 1048576) (hm : ∀ r ∈ rows, r.length ≤ 1048576) (hw : cs.length ≤ 1048576) (hp : Hid (margin.hpB rows zs = true)) (hl : cs.length = rows.length) (h : Hid (numsR 0 999 cs = true)) (hK : planeB (pcW rows zs cs) (cb zs cs rows.length) = false) :
    Calls Try.prog 59 #[.agg #[.slice a rows.length c, .slice a' zs.length c'], .slice p cs.length q] w (RetPB [] 0 false w) := by
  have HMM := Lib.hid hm
  clear hm
  have HV1 := Lib.hid (show pcW rows zs cs = cw rows zs cs (rows.getD 0 []).length cs.length from by unfold pcW; rw [hl])
  have HV2 := Lib.hid (show cb zs cs rows.length = cb zs cs cs.length from by rw [hl])
  rw [HV1.out, HV2.out] at hK
  have HK := Lib.hid hK
  clear hK
  obtain ⟨i0, hi, hz0, hz1, hz2⟩ := info_parts infoInt
  obtain ⟨hcf, hd, s16, hzl, hpos⟩ := cf_of (cs := cs) hp.out
  have h1 := Lib.hid ((margin.hpB_iff _ _).1 hp.out).1
  have HCF := Lib.hid hcf
  have HD4 := Lib.hid hd
  have HLn := Lib.hid hzl
  have HLC := Lib.hid hl
  have g0 : ((rows.length : Int) == 0) = false := by rw [beq_eq_false_iff_ne]; omega
  have g1 : ((cs.length : Int) != (rows.length : Int)) = false := by rw [bne_eq_false_iff_eq]; omega
  clear hcf hd hzl hl
  have Hhr := Lib.hid hr
  have Hhz := Lib.hid hz
  have Hhq := Lib.hid hq
  clear hr hz hq
  go_enter Try.func59, Try.ntmps59
  go_wp2_with fail
  have x0_0 : (w.alloc (.cells #[.slice a rows.length c, .slice a' zs.length c'] 27)).cell? ⟨w.heap.size, 0, none⟩ = some (.slice a rows.length c) := cell_new _ _ _ (by simp) rfl
  have x0_1 : (w.alloc (.cells #[.slice a rows.length c, .slice a' zs.length c'] 27)).cell? ⟨w.heap.size, 1, none⟩ = some (.slice a' zs.length c') := cell_new _ _ _ (by simp) rfl
  have HB0 := Lib.hid (below_alloc w (.cells #[.slice a rows.length c, .slice a' zs.length c'] 27))
  replace x0_0 := cell_old (.cells #[.slice none 0 0, .int .i64 0] 46) x0_0
  replace x0_1 := cell_old (.cells #[.slice none 0 0, .int .i64 0] 46) x0_1
  have x1_0 : ((w.alloc (.cells #[.slice a rows.length c, .slice a' zs.length c'] 27)).alloc (.cells #[.slice none 0 0, .int .i64 0] 46)).cell? ⟨w.heap.size + 1, 0, none⟩ = some (.slice none 0 0) := cell_new _ _ _ (by simp) rfl
  have x1_1 : ((w.alloc (.cells #[.slice a rows.length c, .slice a' zs.length c'] 27)).alloc (.cells #[.slice none 0 0, .int .i64 0] 46)).cell? ⟨w.heap.size + 1, 1, none⟩ = some (.int .i64 0) := cell_new _ _ _ (by simp) rfl
  have f1_0 : ((w.alloc (.cells #[.slice a rows.length c, .slice a' zs.length c'] 27)).alloc (.cells #[.slice none 0 0, .int .i64 0] 46)).frozen? ⟨w.heap.size + 1, 0, none⟩ = false := fro_new _ _ _ (by simp)
  have f1_1 : ((w.alloc (.cells #[.slice a rows.length c, .slice a' zs.length c'] 27)).alloc (.cells #[.slice none 0 0, .int .i64 0] 46)).frozen? ⟨w.heap.size + 1, 1, none⟩ = false := fro_new _ _ _ (by simp)
  replace HB0 := Lib.hid (HB0.out.alloc (by simp) (.cells #[.slice none 0 0, .int .i64 0] 46))
  have s0 : w.heap.size + 2 ≤ ((w.alloc (.cells #[.slice a rows.length c, .slice a' zs.length c'] 27)).alloc (.cells #[.slice none 0 0, .int .i64 0] 46)).heap.size := by simp
  generalize hw : ((w.alloc (.cells #[.slice a rows.length c, .slice a' zs.length c'] 27)).alloc (.cells #[.slice none 0 0, .int .i64 0] 46)) = w0 at *
  clear hw
  have n0_0 : w.heap.size < w0.heap.size := by omega
  have n0_1 : w.heap.size + 1 < w0.heap.size := by omega
  refine (spec_sample a rows c a' zs c' _ (Hhr.out.below HB0.out) (Hhz.out.below HB0.out) hn hk HMM.out true h1).mono ?_
  rintro e w1 ⟨rfl, hb⟩
  have s1 : w0.heap.size ≤ w1.heap.size := hb.size
  have n1_0 : w.heap.size < w1.heap.size := by omega
  have n1_1 : w.heap.size + 1 < w1.heap.size := by omega
  replace x0_0 := cell_below hb x0_0 (by omega)
  replace x0_1 := cell_below hb x0_1 (by omega)
  replace x1_0 := cell_below hb x1_0 (by omega)
  replace x1_1 := cell_below hb x1_1 (by omega)
  replace f1_0 := fro_below hb f1_0 (by omega)
  replace f1_1 := fro_below hb f1_1 (by omega)
  have HB1 := Lib.hid (HB0.out.trans (hb.mono (by omega)))
  clear hb
  obtain ⟨bl, off, rp0, rq0, hab, hbl, hc0, _, _⟩ := (Hhr.out.below HB1.out).at hpos
  subst hab
  rw [Nat.add_zero] at hc0
  have HX := Lib.hid (show w1.cell? ⟨w.heap.size, 0, none⟩ = some (.slice (some ⟨bl, off, none⟩) rows.length c) ∧ w1.cell? ⟨w.heap.size, 1, none⟩ = some (.slice a' zs.length c') from ⟨x0_0, x0_1⟩)
  have HR := Lib.hid (show w1.cell? ⟨w.heap.size + 1, 0, none⟩ = some (.slice none 0 0) ∧ w1.cell? ⟨w.heap.size + 1, 1, none⟩ = some (.int .i64 0) ∧ w1.frozen? ⟨w.heap.size + 1, 0, none⟩ = false ∧ w1.frozen? ⟨w.heap.size + 1, 1, none⟩ = false from ⟨x1_0, x1_1, f1_0, f1_1⟩)
  generalize hr0 : rows.getD 0 [] = r0 at *
  have hd4 := HD4.out
  go_wp2_with (refine wpList_make_full _ rfl _ _ 23 rfl w1.heap.size 3 i0 (.int .i64 0) 1 Try.underlying23 hi hz0 hz1 .i64 .i64 _ _ r0.length rfl rfl rfl rfl (by rw [hz2]; omega) (by unfold maxLen; omega) (Nat.le_refl _) ?_; intro w3 hown1 hgrow1; refine Hid.out ?_)
  refine Lib.hid ?_
  have hb3 : Below w1.heap.size w1 w3 := (Below.refl _ _).grown hgrow1 (Nat.le_refl _) (by simp)
  rw [show (Value.int .i64 0).cells = #[Value.int .i64 0] from rfl, Nat.mul_one, toList_madeCells_one] at hown1
  have hlt3 := hown1.lt w1.heap.size rfl
  have HO3 := Lib.hid (show w3.ownsRow w1.heap.size 3 1 (.slice (some ⟨w1.heap.size, 0, none⟩) r0.length r0.length) r0.length ((cw rows zs cs r0.length 0).map (Value.int .i64)) from by unfold cw; rw [List.map_replicate]; exact hown1)
  clear hown1 hgrow1 hc0 x0_0 x0_1 x1_0 x1_1 f1_0 f1_1
  go_wp2_with fail
  obtain ⟨B, hB⟩ : ∃ B, B = w3.heap.size := ⟨_, rfl⟩
  have HST := Lib.hid (show (w3.alloc (.cells #[.slice (some ⟨w1.heap.size, 0, none⟩) r0.length r0.length, .int .i64 0] 46)).ownsRow w1.heap.size 3 1 (.slice (some ⟨w1.heap.size, 0, none⟩) r0.length r0.length) r0.length ((cw rows zs cs r0.length 0).map (Value.int .i64)) ∧ ((w3.alloc (.cells #[.slice (some ⟨w1.heap.size, 0, none⟩) r0.length r0.length, .int .i64 0] 46)).cell? ⟨B, 0, none⟩ = some (.slice (some ⟨w1.heap.size, 0, none⟩) r0.length r0.length) ∧ (w3.alloc (.cells #[.slice (some ⟨w1.heap.size, 0, none⟩) r0.length r0.length, .int .i64 0] 46)).cell? ⟨B, 1, none⟩ = some (.int .i64 (cb zs cs 0)) ∧ (w3.alloc (.cells #[.slice (some ⟨w1.heap.size, 0, none⟩) r0.length r0.length, .int .i64 0] 46)).frozen? ⟨B, 1, none⟩ = false ∧ B < (w3.alloc (.cells #[.slice (some ⟨w1.heap.size, 0, none⟩) r0.length r0.length, .int .i64 0] 46)).heap.size) ∧ Below w1.heap.size w1 (w3.alloc (.cells #[.slice (some ⟨w1.heap.size, 0, none⟩) r0.length r0.length, .int .i64 0] 46)) from ⟨HO3.out.alloc _, ⟨cell_new _ _ _ hB rfl, cell_new _ _ _ hB rfl, fro_new _ _ _ hB, by rw [hB]; simp⟩, hb3.alloc (by omega) _⟩)
  rw [← hB]
  have hGB : w1.heap.size < B := by omega
  generalize w3.alloc (.cells #[.slice (some ⟨w1.heap.size, 0, none⟩) r0.length r0.length, .int .i64 0] 46) = w4 at *
  clear HO3 hlt3 hB hb3
  go_loopw [7] (fun i wr => ∃ k : Nat, k ≤ cs.length ∧ i = .int .i64 k ∧ Hid (wr.ownsRow w1.heap.size 3 1 (.slice (some ⟨w1.heap.size, 0, none⟩) r0.length r0.length) r0.length ((cw rows zs cs r0.length k).map (Value.int .i64)) ∧ (wr.cell? ⟨B, 0, none⟩ = some (.slice (some ⟨w1.heap.size, 0, none⟩) r0.length r0.length) ∧ wr.cell? ⟨B, 1, none⟩ = some (.int .i64 (cb zs cs k)) ∧ wr.frozen? ⟨B, 1, none⟩ = false ∧ B < wr.heap.size) ∧ Below w1.heap.size w1 wr) ∧ Hid (∀ j, j < k → 0 ≤ cs.getD j 0 ∧ cs.getD j 0 ≤ 999)) (fun i _ => cs.length - (intOf i).toNat)
  case atStart => exact ⟨0, Nat.zero_le _, rfl, HST, fun j hj => by omega⟩
  case round =>
    obtain ⟨k, hk', rfl, HS, HJ⟩ := hrel
    clear HST
    have hbel := HS.out.2.2
    have hsz := hbel.size
    by_cases hlt : k < cs.length
    · have hkr : k < rows.length := by have := HLC.out; omega
      obtain ⟨qb, qo, hqb, hql, hqc⟩ := (Hhq.out.below HB1.out).at hlt
      subst hqb
      have HQC := Lib.hid (show w1.cell? ⟨qb, qo + k, none⟩ = some (.int .i64 (cs.getD k 0)) ∧ qb < w1.heap.size from ⟨hqc, hql⟩)
      replace hqc := cell_below hbel hqc (by omega)
      have i1 : (0 : Int) ≤ (k : Int) := by omega
      have i2 : (k : Int) < (cs.length : Int) := by omega
      have hx : inR 0 999 (cs.getD k 0) = true := (inR_iff _ _ _).2 (numsR_at h.out k hlt)
      have hin := (inR_iff _ _ _).1 hx
      have HJ2 := Lib.hid (show ∀ j, j < k + 1 → 0 ≤ cs.getD j 0 ∧ cs.getD j 0 ≤ 999 from fun j hj => by
        by_cases e : j = k
        · rw [e]; exact hin
        · exact HJ.out j (by omega))
      have HFt := Lib.hid (cw_fit HCF.out HD4.out s16 k hkr HJ2.out)
      obtain ⟨bl', off', rp, rq, hab, hbl', hc, hpq, hrow⟩ := (Hhr.out.below HB1.out).at hkr
      obtain ⟨rfl, rfl⟩ : bl = bl' ∧ off = off' := by cases hab; exact ⟨rfl, rfl⟩
      obtain ⟨lb, lo, hlb, hll, hlc⟩ := (Hhz.out.below HB1.out).at (k := k) (by have := HLn.out; omega)
      subst hlb
      have HCC := Lib.hid (show w1.cell? ⟨bl, off + k, none⟩ = some (.slice rp (rows.getD k []).length rq) ∧ w1.cell? ⟨lb, lo + k, none⟩ = some (.int .i64 (zs.getD k 0)) ∧ bl < w1.heap.size ∧ lb < w1.heap.size from ⟨hc, hlc, hbl', hll⟩)
      have HROW := Lib.hid hrow
      have HX2 := Lib.hid hx
      unfold inR at HX2
      have HCW := Lib.hid (show added (cw rows zs cs r0.length k) (rows.getD k []) (zs.getD k 0 * cs.getD k 0) = cw rows zs cs r0.length (k + 1) from rfl)
      have HCB := Lib.hid (show cb zs cs k - zs.getD k 0 * cs.getD k 0 = cb zs cs (k + 1) from rfl)
      have HN := Lib.hid (cw_length rows zs cs r0.length k)
      have i3 : (k : Int) < (rows.length : Int) := by omega
      have i4 : (k : Int) < (zs.length : Int) := by have := HLn.out; omega
      have b0 := HS.out.2.1.1
      have HIN := Lib.hid hin
      clear hrow hpq hab hin hx hc hlc HJ
      generalize rows.getD k [] = r at *
      generalize cw rows zs cs r0.length k = vs at *
      generalize cb zs cs k = bb at *
      generalize cs.getD k 0 = cc at *
      generalize zs.getD k 0 = zz at *
      obtain ⟨tt, htt⟩ : ∃ tt, tt = zz * cc := ⟨_, rfl⟩
      rw [← htt] at HFt HCW HCB
      have HE2 := Lib.hid (show IntKind.i64.wrap (cc * zz) = tt from by have := HFt.out.tbd; rw [Int.mul_comm, ← htt]; exact IntWalk.i64_in _ (by omega))
      clear htt hbel
      go_wp2_with fail
      refine (in_any _ _ _ _ true HX2).mono ?_
      rintro e w' ⟨rfl, rfl⟩
      have HSg := HS
      obtain ⟨wo, hwo⟩ : ∃ wo : World, wo = wr := ⟨_, rfl⟩
      go_wp2_with fail
      clear b0 hqc
      go_loopw [8] (fun j wq => ∃ m : Nat, m ≤ r0.length ∧ j = .int .i64 m ∧ Hid (wq.ownsRow w1.heap.size 3 1 (.slice (some ⟨w1.heap.size, 0, none⟩) r0.length r0.length) r0.length ((pf (addAt vs r tt) vs m).map (Value.int .i64)) ∧ (wq.cell? ⟨B, 0, none⟩ = some (.slice (some ⟨w1.heap.size, 0, none⟩) r0.length r0.length) ∧ wq.cell? ⟨B, 1, none⟩ = some (.int .i64 (bb)) ∧ wq.frozen? ⟨B, 1, none⟩ = false ∧ B < wq.heap.size) ∧ Below w1.heap.size w1 wq)) (fun j _ => r0.length - (intOf j).toNat)
      case atStart => exact ⟨0, Nat.zero_le _, rfl, by rw [pf_zero]; exact HS⟩
      case round =>
        obtain ⟨m, hm, rfl, HQ⟩ := hrel
        clear HS HSg
        obtain ⟨hown, ⟨b0, b1, bf, bs⟩, hbq⟩ := HQ.out
        have x0_0 := cell_below hbq HX.out.1 (by omega)
        have x0_1 := cell_below hbq HX.out.2 (by omega)
        have hqc := cell_below hbq HQC.out.1 HQC.out.2
        have hc := cell_below hbq HCC.out.1 HCC.out.2.2.1
        have hlc := cell_below hbq HCC.out.2.1 HCC.out.2.2.2
        have HBq := Lib.hid hbq
        have e2 := HE2.out
        by_cases hmt : m < r0.length
        · obtain ⟨rb, ro, hrb, hrl, hrc⟩ := HROW.out.at (k := m) (by have := HFt.out.len; have := HN.out; omega)
          subst hrb
          replace hrc := cell_below hbq hrc (by omega)
          have hcell := pf_cellN HN.out hown hmt
          have hfro := hown.frozenAt m
          have HST := Lib.hid (pf_storeN HN.out hown hmt (vs.getD m 0 + tt * r.getD m 0) rfl)
          have hbd := HFt.out.at m (by have := HN.out; omega)
          have j1 : (0 : Int) ≤ (m : Int) := by omega
          have j2 : (m : Int) < (r.length : Int) := by have := HFt.out.len; have := HN.out; omega
          have j3 : (m : Int) < (r0.length : Int) := by omega
          have HBX := Lib.hid (show (wr.cell? ⟨B, 0, none⟩ = some (.slice (some ⟨w1.heap.size, 0, none⟩) r0.length r0.length) ∧ wr.cell? ⟨B, 1, none⟩ = some (.int .i64 (bb)) ∧ wr.frozen? ⟨B, 1, none⟩ = false ∧ B < wr.heap.size) from ⟨b0, b1, bf, bs⟩)
          clear hown hbq b1 bf
          generalize vs.getD m 0 = s at *
          generalize r.getD m 0 = x at *
          have e3 : IntKind.i64.wrap (tt * x) = tt * x := IntWalk.i64_in _ (by omega)
          have e4 : IntKind.i64.wrap (s + tt * x) = s + tt * x := IntWalk.i64_in _ (by omega)
          clear hbd
          go_wp2_with fail
          go_still_tail 28, (by kernel_rfl)
          go_wp2_with fail
          go_roundw
          case rel => exact ⟨m + 1, by omega, by go_num, ⟨HST.out, ⟨cell_set HBX.out.1 (by simp; omega) _, cell_set HBX.out.2.1 (by simp; omega) _, by show (World.setCell _ _ _).frozen? _ = false; rw [World.frozen?_setCell]; exact HBX.out.2.2.1, by show B < (World.setCell _ _ _).heap.size; rw [size_set]; exact HBX.out.2.2.2⟩, (HBq.out.setCell (by simp) _).drew⟩⟩
          case measure => simp [intOf]; omega
        · obtain rfl : m = r0.length := by omega
          have hall : pf (addAt vs r tt) vs r0.length = added vs r tt := by have := pf_added vs r tt; rw [HN.out] at this; exact this
          rw [hall, HCW.out] at hown
          have HO2 := Lib.hid hown
          have HBX := Lib.hid (show (wr.cell? ⟨B, 0, none⟩ = some (.slice (some ⟨w1.heap.size, 0, none⟩) r0.length r0.length) ∧ wr.cell? ⟨B, 1, none⟩ = some (.int .i64 (bb)) ∧ wr.frozen? ⟨B, 1, none⟩ = false ∧ B < wr.heap.size) from ⟨b0, b1, bf, bs⟩)
          have e5 : IntKind.i64.wrap (bb - tt) = bb - tt := by have := HFt.out.bbd; have := HFt.out.tbd; exact IntWalk.i64_in _ (by omega)
          clear hown hbq hall hc x0_0
          go_wp2_with fail
          go_still_tail 13, (by kernel_rfl)
          go_wp2_with fail
          go_roundw
          case rel => exact ⟨k + 1, by omega, by go_num, ⟨ownsRow_block HO2.out (fun g e => Below.heap_setCell _ _ _ _ (by have e2 : w1.heap.size = g := (by simpa [Value.ownBlock] using e); simp; omega)), ⟨cell_setO HBX.out.1, by rw [← HCB.out]; exact World.cell?_setCell_same _ _ _ HBX.out.2.1, by show (World.setCell _ _ _).frozen? _ = false; rw [World.frozen?_setCell]; exact HBX.out.2.2.1, by show B < (World.setCell _ _ _).heap.size; rw [size_set]; exact HBX.out.2.2.2⟩, (HBq.out.setCell (by simp; omega) _).drew⟩, HJ2⟩
          case measure => simp [intOf]; omega
    · have hkk : k = cs.length := by omega
      subst hkk
      obtain ⟨hown, ⟨b0, b1, bf, bs⟩, _⟩ := HS.out
      have x1_0 := cell_below hbel HR.out.1 (by omega)
      have x1_1 := cell_below hbel HR.out.2.1 (by omega)
      have f1_0 := fro_below hbel HR.out.2.2.1 (by omega)
      have f1_1 := fro_below hbel HR.out.2.2.2 (by omega)
      have HO := Lib.hid (OwnI.of (by rw [cw_length]; exact hown) : OwnI w1.heap.size wr.heap.size wr (.slice (some ⟨w1.heap.size, 0, none⟩) (cw rows zs cs r0.length cs.length).length r0.length) (cw rows zs cs r0.length cs.length))
      have HN := Lib.hid (cw_length rows zs cs r0.length cs.length)
      have HP := Lib.hid (show Calls Try.prog 91 #[.agg #[.slice (some ⟨w1.heap.size, 0, none⟩) r0.length r0.length, .int .i64 (cb zs cs cs.length)]] wr (RetB false wr) from by
        have := spec_plane (some ⟨w1.heap.size, 0, none⟩) (cw rows zs cs r0.length cs.length) r0.length (cb zs cs cs.length) wr HO.out.reads (by rw [HN.out]; omega) false HK
        rw [HN.out] at this
        exact this)
      have HBE := Lib.hid (HB1.out.trans (hbel.mono (by omega)))
      clear hown bf HS HJ hbel
      generalize cw rows zs cs r0.length cs.length = vs at *
      generalize cb zs cs cs.length = bb at *
      go_wp2_with fail
      refine HP.out.mono ?_
      rintro e w5 ⟨rfl, hb⟩
      have HB5 := Lib.hid (HBE.out.trans (hb.mono (by omega)))
      replace b0 := cell_below hb b0 (bs)
      replace b1 := cell_below hb b1 (bs)
      replace x1_0 := cell_below hb x1_0 (by omega)
      replace x1_1 := cell_below hb x1_1 (by omega)
      replace f1_0 := fro_below hb f1_0 (by omega)
      replace f1_1 := fro_below hb f1_1 (by omega)
      have HO5 := Lib.hid (HO.out.below hb)
      have hs5 := hb.size
      clear hb HO
      go_wp2_with fail
      refine bodyPost_ret (v := .tuple #[.agg #[.slice none 0 0, .int .i64 0], .bool false]) (by simp [results, Try.results59, go_sem, x1_0, x1_1]) rfl ⟨_, rfl, OwnI.nil _ _ _, ?_⟩
      first | exact ((HB5.out.setCell (by simp) _).setCell (by simp) _) | exact HB5.out
set_option maxRecDepth 100000 in
set_option maxHeartbeats 4000000 in
theorem spec_full (a : Option Addr) (rows : List (List Int)) (c : Nat) (a' : Option Addr) (zs : List Int) (c' : Nat) (p : Option Addr) (cs : List Int) (q : Nat) (w : World) (hr : grid.Reads w a rows) (hz : ints.Reads .i64 w a' zs) (hq : ints.Reads .i64 w p cs) (hn : rows.length ≤ 1048576) (hk : zs.length ≤ 1048576) (hm : ∀ r ∈ rows, r.length ≤ 1048576) (hw : cs.length ≤ 1048576) (hp : Hid (margin.hpB rows zs = true)) (hl : cs.length = rows.length) (h : Hid (numsR 0 999 cs = true)) (hK : planeB (pcW rows zs cs) (cb zs cs rows.length) = true) :
    Calls Try.prog 59 #[.agg #[.slice a rows.length c, .slice a' zs.length c'], .slice p cs.length q] w (RetPB (pcW rows zs cs) (cb zs cs rows.length) true w) := by
  have HMM := Lib.hid hm
  clear hm
  have HV1 := Lib.hid (show pcW rows zs cs = cw rows zs cs (rows.getD 0 []).length cs.length from by unfold pcW; rw [hl])
  have HV2 := Lib.hid (show cb zs cs rows.length = cb zs cs cs.length from by rw [hl])
  rw [HV1.out, HV2.out] at hK
  have HK := Lib.hid hK
  rw [HV1.out, HV2.out]
  clear hK
  obtain ⟨i0, hi, hz0, hz1, hz2⟩ := info_parts infoInt
  obtain ⟨hcf, hd, s16, hzl, hpos⟩ := cf_of (cs := cs) hp.out
  have h1 := Lib.hid ((margin.hpB_iff _ _).1 hp.out).1
  have HCF := Lib.hid hcf
  have HD4 := Lib.hid hd
  have HLn := Lib.hid hzl
  have HLC := Lib.hid hl
  have g0 : ((rows.length : Int) == 0) = false := by rw [beq_eq_false_iff_ne]; omega
  have g1 : ((cs.length : Int) != (rows.length : Int)) = false := by rw [bne_eq_false_iff_eq]; omega
  clear hcf hd hzl hl
  have Hhr := Lib.hid hr
  have Hhz := Lib.hid hz
  have Hhq := Lib.hid hq
  clear hr hz hq
  go_enter Try.func59, Try.ntmps59
  go_wp2_with fail
  have x0_0 : (w.alloc (.cells #[.slice a rows.length c, .slice a' zs.length c'] 27)).cell? ⟨w.heap.size, 0, none⟩ = some (.slice a rows.length c) := cell_new _ _ _ (by simp) rfl
  have x0_1 : (w.alloc (.cells #[.slice a rows.length c, .slice a' zs.length c'] 27)).cell? ⟨w.heap.size, 1, none⟩ = some (.slice a' zs.length c') := cell_new _ _ _ (by simp) rfl
  have HB0 := Lib.hid (below_alloc w (.cells #[.slice a rows.length c, .slice a' zs.length c'] 27))
  replace x0_0 := cell_old (.cells #[.slice none 0 0, .int .i64 0] 46) x0_0
  replace x0_1 := cell_old (.cells #[.slice none 0 0, .int .i64 0] 46) x0_1
  have x1_0 : ((w.alloc (.cells #[.slice a rows.length c, .slice a' zs.length c'] 27)).alloc (.cells #[.slice none 0 0, .int .i64 0] 46)).cell? ⟨w.heap.size + 1, 0, none⟩ = some (.slice none 0 0) := cell_new _ _ _ (by simp) rfl
  have x1_1 : ((w.alloc (.cells #[.slice a rows.length c, .slice a' zs.length c'] 27)).alloc (.cells #[.slice none 0 0, .int .i64 0] 46)).cell? ⟨w.heap.size + 1, 1, none⟩ = some (.int .i64 0) := cell_new _ _ _ (by simp) rfl
  have f1_0 : ((w.alloc (.cells #[.slice a rows.length c, .slice a' zs.length c'] 27)).alloc (.cells #[.slice none 0 0, .int .i64 0] 46)).frozen? ⟨w.heap.size + 1, 0, none⟩ = false := fro_new _ _ _ (by simp)
  have f1_1 : ((w.alloc (.cells #[.slice a rows.length c, .slice a' zs.length c'] 27)).alloc (.cells #[.slice none 0 0, .int .i64 0] 46)).frozen? ⟨w.heap.size + 1, 1, none⟩ = false := fro_new _ _ _ (by simp)
  replace HB0 := Lib.hid (HB0.out.alloc (by simp) (.cells #[.slice none 0 0, .int .i64 0] 46))
  have s0 : w.heap.size + 2 ≤ ((w.alloc (.cells #[.slice a rows.length c, .slice a' zs.length c'] 27)).alloc (.cells #[.slice none 0 0, .int .i64 0] 46)).heap.size := by simp
  generalize hw : ((w.alloc (.cells #[.slice a rows.length c, .slice a' zs.length c'] 27)).alloc (.cells #[.slice none 0 0, .int .i64 0] 46)) = w0 at *
  clear hw
  have n0_0 : w.heap.size < w0.heap.size := by omega
  have n0_1 : w.heap.size + 1 < w0.heap.size := by omega
  refine (spec_sample a rows c a' zs c' _ (Hhr.out.below HB0.out) (Hhz.out.below HB0.out) hn hk HMM.out true h1).mono ?_
  rintro e w1 ⟨rfl, hb⟩
  have s1 : w0.heap.size ≤ w1.heap.size := hb.size
  have n1_0 : w.heap.size < w1.heap.size := by omega
  have n1_1 : w.heap.size + 1 < w1.heap.size := by omega
  replace x0_0 := cell_below hb x0_0 (by omega)
  replace x0_1 := cell_below hb x0_1 (by omega)
  replace x1_0 := cell_below hb x1_0 (by omega)
  replace x1_1 := cell_below hb x1_1 (by omega)
  replace f1_0 := fro_below hb f1_0 (by omega)
  replace f1_1 := fro_below hb f1_1 (by omega)
  have HB1 := Lib.hid (HB0.out.trans (hb.mono (by omega)))
  clear hb
  obtain ⟨bl, off, rp0, rq0, hab, hbl, hc0, _, _⟩ := (Hhr.out.below HB1.out).at hpos
  subst hab
  rw [Nat.add_zero] at hc0
  have HX := Lib.hid (show w1.cell? ⟨w.heap.size, 0, none⟩ = some (.slice (some ⟨bl, off, none⟩) rows.length c) ∧ w1.cell? ⟨w.heap.size, 1, none⟩ = some (.slice a' zs.length c') from ⟨x0_0, x0_1⟩)
  have HR := Lib.hid (show w1.cell? ⟨w.heap.size + 1, 0, none⟩ = some (.slice none 0 0) ∧ w1.cell? ⟨w.heap.size + 1, 1, none⟩ = some (.int .i64 0) ∧ w1.frozen? ⟨w.heap.size + 1, 0, none⟩ = false ∧ w1.frozen? ⟨w.heap.size + 1, 1, none⟩ = false from ⟨x1_0, x1_1, f1_0, f1_1⟩)
  generalize hr0 : rows.getD 0 [] = r0 at *
  have hd4 := HD4.out
  go_wp2_with (refine wpList_make_full _ rfl _ _ 23 rfl w1.heap.size 3 i0 (.int .i64 0) 1 Try.underlying23 hi hz0 hz1 .i64 .i64 _ _ r0.length rfl rfl rfl rfl (by rw [hz2]; omega) (by unfold maxLen; omega) (Nat.le_refl _) ?_; intro w3 hown1 hgrow1; refine Hid.out ?_)
  refine Lib.hid ?_
  have hb3 : Below w1.heap.size w1 w3 := (Below.refl _ _).grown hgrow1 (Nat.le_refl _) (by simp)
  rw [show (Value.int .i64 0).cells = #[Value.int .i64 0] from rfl, Nat.mul_one, toList_madeCells_one] at hown1
  have hlt3 := hown1.lt w1.heap.size rfl
  have HO3 := Lib.hid (show w3.ownsRow w1.heap.size 3 1 (.slice (some ⟨w1.heap.size, 0, none⟩) r0.length r0.length) r0.length ((cw rows zs cs r0.length 0).map (Value.int .i64)) from by unfold cw; rw [List.map_replicate]; exact hown1)
  clear hown1 hgrow1 hc0 x0_0 x0_1 x1_0 x1_1 f1_0 f1_1
  go_wp2_with fail
  obtain ⟨B, hB⟩ : ∃ B, B = w3.heap.size := ⟨_, rfl⟩
  have HST := Lib.hid (show (w3.alloc (.cells #[.slice (some ⟨w1.heap.size, 0, none⟩) r0.length r0.length, .int .i64 0] 46)).ownsRow w1.heap.size 3 1 (.slice (some ⟨w1.heap.size, 0, none⟩) r0.length r0.length) r0.length ((cw rows zs cs r0.length 0).map (Value.int .i64)) ∧ ((w3.alloc (.cells #[.slice (some ⟨w1.heap.size, 0, none⟩) r0.length r0.length, .int .i64 0] 46)).cell? ⟨B, 0, none⟩ = some (.slice (some ⟨w1.heap.size, 0, none⟩) r0.length r0.length) ∧ (w3.alloc (.cells #[.slice (some ⟨w1.heap.size, 0, none⟩) r0.length r0.length, .int .i64 0] 46)).cell? ⟨B, 1, none⟩ = some (.int .i64 (cb zs cs 0)) ∧ (w3.alloc (.cells #[.slice (some ⟨w1.heap.size, 0, none⟩) r0.length r0.length, .int .i64 0] 46)).frozen? ⟨B, 1, none⟩ = false ∧ B < (w3.alloc (.cells #[.slice (some ⟨w1.heap.size, 0, none⟩) r0.length r0.length, .int .i64 0] 46)).heap.size) ∧ Below w1.heap.size w1 (w3.alloc (.cells #[.slice (some ⟨w1.heap.size, 0, none⟩) r0.length r0.length, .int .i64 0] 46)) from ⟨HO3.out.alloc _, ⟨cell_new _ _ _ hB rfl, cell_new _ _ _ hB rfl, fro_new _ _ _ hB, by rw [hB]; simp⟩, hb3.alloc (by omega) _⟩)
  rw [← hB]
  have hGB : w1.heap.size < B := by omega
  generalize w3.alloc (.cells #[.slice (some ⟨w1.heap.size, 0, none⟩) r0.length r0.length, .int .i64 0] 46) = w4 at *
  clear HO3 hlt3 hB hb3
  go_loopw [7] (fun i wr => ∃ k : Nat, k ≤ cs.length ∧ i = .int .i64 k ∧ Hid (wr.ownsRow w1.heap.size 3 1 (.slice (some ⟨w1.heap.size, 0, none⟩) r0.length r0.length) r0.length ((cw rows zs cs r0.length k).map (Value.int .i64)) ∧ (wr.cell? ⟨B, 0, none⟩ = some (.slice (some ⟨w1.heap.size, 0, none⟩) r0.length r0.length) ∧ wr.cell? ⟨B, 1, none⟩ = some (.int .i64 (cb zs cs k)) ∧ wr.frozen? ⟨B, 1, none⟩ = false ∧ B < wr.heap.size) ∧ Below w1.heap.size w1 wr) ∧ Hid (∀ j, j < k → 0 ≤ cs.getD j 0 ∧ cs.getD j 0 ≤ 999)) (fun i _ => cs.length - (intOf i).toNat)
  case atStart => exact ⟨0, Nat.zero_le _, rfl, HST, fun j hj => by omega⟩
  case round =>
    obtain ⟨k, hk', rfl, HS, HJ⟩ := hrel
    clear HST
    have hbel := HS.out.2.2
    have hsz := hbel.size
    by_cases hlt : k < cs.length
    · have hkr : k < rows.length := by have := HLC.out; omega
      obtain ⟨qb, qo, hqb, hql, hqc⟩ := (Hhq.out.below HB1.out).at hlt
      subst hqb
      have HQC := Lib.hid (show w1.cell? ⟨qb, qo + k, none⟩ = some (.int .i64 (cs.getD k 0)) ∧ qb < w1.heap.size from ⟨hqc, hql⟩)
      replace hqc := cell_below hbel hqc (by omega)
      have i1 : (0 : Int) ≤ (k : Int) := by omega
      have i2 : (k : Int) < (cs.length : Int) := by omega
      have hx : inR 0 999 (cs.getD k 0) = true := (inR_iff _ _ _).2 (numsR_at h.out k hlt)
      have hin := (inR_iff _ _ _).1 hx
      have HJ2 := Lib.hid (show ∀ j, j < k + 1 → 0 ≤ cs.getD j 0 ∧ cs.getD j 0 ≤ 999 from fun j hj => by
        by_cases e : j = k
        · rw [e]; exact hin
        · exact HJ.out j (by omega))
      have HFt := Lib.hid (cw_fit HCF.out HD4.out s16 k hkr HJ2.out)
      obtain ⟨bl', off', rp, rq, hab, hbl', hc, hpq, hrow⟩ := (Hhr.out.below HB1.out).at hkr
      obtain ⟨rfl, rfl⟩ : bl = bl' ∧ off = off' := by cases hab; exact ⟨rfl, rfl⟩
      obtain ⟨lb, lo, hlb, hll, hlc⟩ := (Hhz.out.below HB1.out).at (k := k) (by have := HLn.out; omega)
      subst hlb
      have HCC := Lib.hid (show w1.cell? ⟨bl, off + k, none⟩ = some (.slice rp (rows.getD k []).length rq) ∧ w1.cell? ⟨lb, lo + k, none⟩ = some (.int .i64 (zs.getD k 0)) ∧ bl < w1.heap.size ∧ lb < w1.heap.size from ⟨hc, hlc, hbl', hll⟩)
      have HROW := Lib.hid hrow
      have HX2 := Lib.hid hx
      unfold inR at HX2
      have HCW := Lib.hid (show added (cw rows zs cs r0.length k) (rows.getD k []) (zs.getD k 0 * cs.getD k 0) = cw rows zs cs r0.length (k + 1) from rfl)
      have HCB := Lib.hid (show cb zs cs k - zs.getD k 0 * cs.getD k 0 = cb zs cs (k + 1) from rfl)
      have HN := Lib.hid (cw_length rows zs cs r0.length k)
      have i3 : (k : Int) < (rows.length : Int) := by omega
      have i4 : (k : Int) < (zs.length : Int) := by have := HLn.out; omega
      have b0 := HS.out.2.1.1
      have HIN := Lib.hid hin
      clear hrow hpq hab hin hx hc hlc HJ
      generalize rows.getD k [] = r at *
      generalize cw rows zs cs r0.length k = vs at *
      generalize cb zs cs k = bb at *
      generalize cs.getD k 0 = cc at *
      generalize zs.getD k 0 = zz at *
      obtain ⟨tt, htt⟩ : ∃ tt, tt = zz * cc := ⟨_, rfl⟩
      rw [← htt] at HFt HCW HCB
      have HE2 := Lib.hid (show IntKind.i64.wrap (cc * zz) = tt from by have := HFt.out.tbd; rw [Int.mul_comm, ← htt]; exact IntWalk.i64_in _ (by omega))
      clear htt hbel
      go_wp2_with fail
      refine (in_any _ _ _ _ true HX2).mono ?_
      rintro e w' ⟨rfl, rfl⟩
      have HSg := HS
      obtain ⟨wo, hwo⟩ : ∃ wo : World, wo = wr := ⟨_, rfl⟩
      go_wp2_with fail
      clear b0 hqc
      go_loopw [8] (fun j wq => ∃ m : Nat, m ≤ r0.length ∧ j = .int .i64 m ∧ Hid (wq.ownsRow w1.heap.size 3 1 (.slice (some ⟨w1.heap.size, 0, none⟩) r0.length r0.length) r0.length ((pf (addAt vs r tt) vs m).map (Value.int .i64)) ∧ (wq.cell? ⟨B, 0, none⟩ = some (.slice (some ⟨w1.heap.size, 0, none⟩) r0.length r0.length) ∧ wq.cell? ⟨B, 1, none⟩ = some (.int .i64 (bb)) ∧ wq.frozen? ⟨B, 1, none⟩ = false ∧ B < wq.heap.size) ∧ Below w1.heap.size w1 wq)) (fun j _ => r0.length - (intOf j).toNat)
      case atStart => exact ⟨0, Nat.zero_le _, rfl, by rw [pf_zero]; exact HS⟩
      case round =>
        obtain ⟨m, hm, rfl, HQ⟩ := hrel
        clear HS HSg
        obtain ⟨hown, ⟨b0, b1, bf, bs⟩, hbq⟩ := HQ.out
        have x0_0 := cell_below hbq HX.out.1 (by omega)
        have x0_1 := cell_below hbq HX.out.2 (by omega)
        have hqc := cell_below hbq HQC.out.1 HQC.out.2
        have hc := cell_below hbq HCC.out.1 HCC.out.2.2.1
        have hlc := cell_below hbq HCC.out.2.1 HCC.out.2.2.2
        have HBq := Lib.hid hbq
        have e2 := HE2.out
        by_cases hmt : m < r0.length
        · obtain ⟨rb, ro, hrb, hrl, hrc⟩ := HROW.out.at (k := m) (by have := HFt.out.len; have := HN.out; omega)
          subst hrb
          replace hrc := cell_below hbq hrc (by omega)
          have hcell := pf_cellN HN.out hown hmt
          have hfro := hown.frozenAt m
          have HST := Lib.hid (pf_storeN HN.out hown hmt (vs.getD m 0 + tt * r.getD m 0) rfl)
          have hbd := HFt.out.at m (by have := HN.out; omega)
          have j1 : (0 : Int) ≤ (m : Int) := by omega
          have j2 : (m : Int) < (r.length : Int) := by have := HFt.out.len; have := HN.out; omega
          have j3 : (m : Int) < (r0.length : Int) := by omega
          have HBX := Lib.hid (show (wr.cell? ⟨B, 0, none⟩ = some (.slice (some ⟨w1.heap.size, 0, none⟩) r0.length r0.length) ∧ wr.cell? ⟨B, 1, none⟩ = some (.int .i64 (bb)) ∧ wr.frozen? ⟨B, 1, none⟩ = false ∧ B < wr.heap.size) from ⟨b0, b1, bf, bs⟩)
          clear hown hbq b1 bf
          generalize vs.getD m 0 = s at *
          generalize r.getD m 0 = x at *
          have e3 : IntKind.i64.wrap (tt * x) = tt * x := IntWalk.i64_in _ (by omega)
          have e4 : IntKind.i64.wrap (s + tt * x) = s + tt * x := IntWalk.i64_in _ (by omega)
          clear hbd
          go_wp2_with fail
          go_still_tail 28, (by kernel_rfl)
          go_wp2_with fail
          go_roundw
          case rel => exact ⟨m + 1, by omega, by go_num, ⟨HST.out, ⟨cell_set HBX.out.1 (by simp; omega) _, cell_set HBX.out.2.1 (by simp; omega) _, by show (World.setCell _ _ _).frozen? _ = false; rw [World.frozen?_setCell]; exact HBX.out.2.2.1, by show B < (World.setCell _ _ _).heap.size; rw [size_set]; exact HBX.out.2.2.2⟩, (HBq.out.setCell (by simp) _).drew⟩⟩
          case measure => simp [intOf]; omega
        · obtain rfl : m = r0.length := by omega
          have hall : pf (addAt vs r tt) vs r0.length = added vs r tt := by have := pf_added vs r tt; rw [HN.out] at this; exact this
          rw [hall, HCW.out] at hown
          have HO2 := Lib.hid hown
          have HBX := Lib.hid (show (wr.cell? ⟨B, 0, none⟩ = some (.slice (some ⟨w1.heap.size, 0, none⟩) r0.length r0.length) ∧ wr.cell? ⟨B, 1, none⟩ = some (.int .i64 (bb)) ∧ wr.frozen? ⟨B, 1, none⟩ = false ∧ B < wr.heap.size) from ⟨b0, b1, bf, bs⟩)
          have e5 : IntKind.i64.wrap (bb - tt) = bb - tt := by have := HFt.out.bbd; have := HFt.out.tbd; exact IntWalk.i64_in _ (by omega)
          clear hown hbq hall hc x0_0
          go_wp2_with fail
          go_still_tail 13, (by kernel_rfl)
          go_wp2_with fail
          go_roundw
          case rel => exact ⟨k + 1, by omega, by go_num, ⟨ownsRow_block HO2.out (fun g e => Below.heap_setCell _ _ _ _ (by have e2 : w1.heap.size = g := (by simpa [Value.ownBlock] using e); simp; omega)), ⟨cell_setO HBX.out.1, by rw [← HCB.out]; exact World.cell?_setCell_same _ _ _ HBX.out.2.1, by show (World.setCell _ _ _).frozen? _ = false; rw [World.frozen?_setCell]; exact HBX.out.2.2.1, by show B < (World.setCell _ _ _).heap.size; rw [size_set]; exact HBX.out.2.2.2⟩, (HBq.out.setCell (by simp; omega) _).drew⟩, HJ2⟩
          case measure => simp [intOf]; omega
    · have hkk : k = cs.length := by omega
      subst hkk
      obtain ⟨hown, ⟨b0, b1, bf, bs⟩, _⟩ := HS.out
      have x1_0 := cell_below hbel HR.out.1 (by omega)
      have x1_1 := cell_below hbel HR.out.2.1 (by omega)
      have f1_0 := fro_below hbel HR.out.2.2.1 (by omega)
      have f1_1 := fro_below hbel HR.out.2.2.2 (by omega)
      have HO := Lib.hid (OwnI.of (by rw [cw_length]; exact hown) : OwnI w1.heap.size wr.heap.size wr (.slice (some ⟨w1.heap.size, 0, none⟩) (cw rows zs cs r0.length cs.length).length r0.length) (cw rows zs cs r0.length cs.length))
      have HN := Lib.hid (cw_length rows zs cs r0.length cs.length)
      have HP := Lib.hid (show Calls Try.prog 91 #[.agg #[.slice (some ⟨w1.heap.size, 0, none⟩) r0.length r0.length, .int .i64 (cb zs cs cs.length)]] wr (RetB true wr) from by
        have := spec_plane (some ⟨w1.heap.size, 0, none⟩) (cw rows zs cs r0.length cs.length) r0.length (cb zs cs cs.length) wr HO.out.reads (by rw [HN.out]; omega) true HK
        rw [HN.out] at this
        exact this)
      have HBE := Lib.hid (HB1.out.trans (hbel.mono (by omega)))
      clear hown bf HS HJ hbel
      generalize cw rows zs cs r0.length cs.length = vs at *
      generalize cb zs cs cs.length = bb at *
      go_wp2_with fail
      refine HP.out.mono ?_
      rintro e w5 ⟨rfl, hb⟩
      have HB5 := Lib.hid (HBE.out.trans (hb.mono (by omega)))
      replace b0 := cell_below hb b0 (bs)
      replace b1 := cell_below hb b1 (bs)
      replace x1_0 := cell_below hb x1_0 (by omega)
      replace x1_1 := cell_below hb x1_1 (by omega)
      replace f1_0 := fro_below hb f1_0 (by omega)
      replace f1_1 := fro_below hb f1_1 (by omega)
      have HO5 := Lib.hid (HO.out.below hb)
      have hs5 := hb.size
      clear hb HO
      go_wp2_with fail
      refine bodyPost_ret (v := .tuple #[.agg #[.slice (some ⟨w1.heap.size, 0, none⟩) r0.length r0.length, .int .i64 bb], .bool true]) (by simp [results, Try.results59, go_sem, x1_0, x1_1]) rfl ⟨_, rfl, ?_, ?_⟩
      · have := ((HO5.out.set (a := ⟨w.heap.size + 1, 0, none⟩) (by simp; omega) (.slice (some ⟨w1.heap.size, 0, none⟩) r0.length r0.length)).set (a := ⟨w.heap.size + 1, 1, none⟩) (by simp; omega) (.int .i64 bb)).mono (show w.heap.size ≤ w1.heap.size by omega) hs5
        simp only [size_set]
        rw [HN.out] at this
        exact this
      · exact (HB5.out.setCell (by simp) _).setCell (by simp) _
theorem spec_no (a : Option Addr) (rows : List (List Int)) (c : Nat) (a' : Option Addr) (zs : List Int) (c' : Nat) (p : Option Addr) (cs : List Int) (q : Nat) (w : World) (hr : grid.Reads w a rows) (hz : ints.Reads .i64 w a' zs) (hq : ints.Reads .i64 w p cs) (hn : rows.length ≤ 1048576) (hk : zs.length ≤ 1048576) (hm : ∀ r ∈ rows, r.length ≤ 1048576) (hw : cs.length ≤ 1048576) (h : pcB rows zs cs = false) :
    Calls Try.prog 59 #[.agg #[.slice a rows.length c, .slice a' zs.length c'], .slice p cs.length q] w (RetPB [] 0 false w) := by
  cases h1 : sampleB rows zs
  · exact spec_no1 a rows c a' zs c' p cs q w hr hz hq hn hk hm hw (Lib.hid h1)
  · by_cases h0 : rows.length = 0
    · exact spec_no2 a rows c a' zs c' p cs q w hr hz hq hn hk hm hw (Lib.hid h1) h0
    · by_cases hl : cs.length = rows.length
      · have hp : margin.hpB rows zs = true := (margin.hpB_iff _ _).2 ⟨h1, by omega⟩
        cases h2 : numsR 0 999 cs
        · exact spec_bad a rows c a' zs c' p cs q w hr hz hq hn hk hm hw (Lib.hid hp) hl (Lib.hid h2)
        · refine spec_out a rows c a' zs c' p cs q w hr hz hq hn hk hm hw (Lib.hid hp) hl (Lib.hid h2) ?_
          rw [pcB, cntB, hp, h2, decide_eq_true hl] at h
          simpa using h
      · exact spec_no3 a rows c a' zs c' p cs q w hr hz hq hn hk hm hw (Lib.hid h1) (by omega) hl
theorem spec_yes (a : Option Addr) (rows : List (List Int)) (c : Nat) (a' : Option Addr) (zs : List Int) (c' : Nat) (p : Option Addr) (cs : List Int) (q : Nat) (w : World) (hr : grid.Reads w a rows) (hz : ints.Reads .i64 w a' zs) (hq : ints.Reads .i64 w p cs) (hn : rows.length ≤ 1048576) (hk : zs.length ≤ 1048576) (hm : ∀ r ∈ rows, r.length ≤ 1048576) (hw : cs.length ≤ 1048576) (h : pcB rows zs cs = true) :
    Calls Try.prog 59 #[.agg #[.slice a rows.length c, .slice a' zs.length c'], .slice p cs.length q] w (RetPB (pcW rows zs cs) (cb zs cs rows.length) true w) := by
  have h' : ((margin.hpB rows zs = true ∧ cs.length = rows.length) ∧ numsR 0 999 cs = true) ∧ planeB (pcW rows zs cs) (cb zs cs rows.length) = true := by simpa [pcB, cntB] using h
  exact spec_full a rows c a' zs c' p cs q w hr hz hq hn hk hm hw (Lib.hid h'.1.1.1) h'.1.1.2 (Lib.hid h'.1.2) h'.2
end Go.Proofs.Ytocbklmkphgkeaa.counts
