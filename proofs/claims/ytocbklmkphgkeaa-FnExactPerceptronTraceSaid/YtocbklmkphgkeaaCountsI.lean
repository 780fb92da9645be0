/- The walks of the program's PlaneOfCounts. -/
import Derived.Test.YtocbklmkphgkeaaCounts
import Derived.Test.YtocbklmkphgkeaaSetCell
import Derived.Deep.RegionHeld3
import Derived.Deep.DrawnRows
namespace Go.Proofs.Ytocbklmkphgkeaa.counts
open Go.RowKit own own1 pp nums dots fill step range kept samplest samplesv planes
set_option linter.unusedVariables false
set_option linter.unusedSimpArgs false
attribute [local go_sem ↓] Go.wp_at_zero Go.wp_at_succ
set_option maxRecDepth 100000 in
set_option maxHeartbeats 4000000 in
theorem impl_first (bl off n c : Nat) (x : Value) (r0 : List Int) (rp : Option Addr) (rq : Nat) (w : World) (hn : 0 < n) (hbl : bl < w.heap.size) (hc : w.cell? ⟨bl, off, none⟩ = some (.slice rp r0.length rq)) (hd : 1 ≤ r0.length ∧ r0.length ≤ 4) (p2 : Option Addr) (n2 c2 : Nat) (hx : x = .slice p2 n2 c2) :
    Calls Try.prog 117 #[.agg #[.slice (some ⟨bl, off, none⟩) n c, x]] w (planefns.MadeP (List.replicate r0.length 0) 0 w) := by
  obtain ⟨hd1, hd4⟩ := hd
  subst hx
  obtain ⟨i0, hi, hz0, hz1, hz2⟩ := info_parts infoInt
  have Hhc := Lib.hid hc
  clear hc
  have i1 : (0 : Int) < (n : Int) := by omega
  have x0_0 : ((w.alloc (.cells #[.slice (some ⟨bl, off, none⟩) n c, .slice p2 n2 c2] 27)).alloc (.cells #[.slice none 0 0, .int .i64 0] 46)).cell? ⟨w.heap.size, 0, none⟩ = some (.slice (some ⟨bl, off, none⟩) n c) := cell_old _ (cell_new _ _ _ (by simp) rfl)
  have x1_0 : ((w.alloc (.cells #[.slice (some ⟨bl, off, none⟩) n c, .slice p2 n2 c2] 27)).alloc (.cells #[.slice none 0 0, .int .i64 0] 46)).cell? ⟨w.heap.size + 1, 0, none⟩ = some (.slice none 0 0) := cell_new _ _ _ (by simp) rfl
  have x1_1 : ((w.alloc (.cells #[.slice (some ⟨bl, off, none⟩) n c, .slice p2 n2 c2] 27)).alloc (.cells #[.slice none 0 0, .int .i64 0] 46)).cell? ⟨w.heap.size + 1, 1, none⟩ = some (.int .i64 0) := cell_new _ _ _ (by simp) rfl
  have f1_0 : ((w.alloc (.cells #[.slice (some ⟨bl, off, none⟩) n c, .slice p2 n2 c2] 27)).alloc (.cells #[.slice none 0 0, .int .i64 0] 46)).frozen? ⟨w.heap.size + 1, 0, none⟩ = false := fro_new _ _ _ (by simp)
  have f1_1 : ((w.alloc (.cells #[.slice (some ⟨bl, off, none⟩) n c, .slice p2 n2 c2] 27)).alloc (.cells #[.slice none 0 0, .int .i64 0] 46)).frozen? ⟨w.heap.size + 1, 1, none⟩ = false := fro_new _ _ _ (by simp)
  have HB0 := Lib.hid ((below_alloc w (.cells #[.slice (some ⟨bl, off, none⟩) n c, .slice p2 n2 c2] 27)).alloc (by simp) (.cells #[.slice none 0 0, .int .i64 0] 46))
  have hc0 := cell_below HB0.out Hhc.out hbl
  have s0 : w.heap.size + 2 ≤ ((w.alloc (.cells #[.slice (some ⟨bl, off, none⟩) n c, .slice p2 n2 c2] 27)).alloc (.cells #[.slice none 0 0, .int .i64 0] 46)).heap.size := by simp
  generalize hw : ((w.alloc (.cells #[.slice (some ⟨bl, off, none⟩) n c, .slice p2 n2 c2] 27)).alloc (.cells #[.slice none 0 0, .int .i64 0] 46)) = w0 at *
  have HW := Lib.hid hw
  clear hw
  have hc9 := hc0
  rw [← HW.out] at hc9
  go_enter Try.func117, Try.ntmps117
  go_wp2_with (refine wpList_make_full _ rfl _ _ 23 rfl w0.heap.size 3 i0 (.int .i64 0) 1 Try.underlying23 hi hz0 hz1 .i64 .i64 _ _ r0.length rfl rfl rfl rfl (by rw [hz2]; omega) (by unfold maxLen; omega) (by first | exact Nat.le_refl _ | (rw [← HW.out]; exact Nat.le_refl _)) ?_; intro w3 hown1 hgrow1; refine Hid.out ?_)
  refine Lib.hid ?_
  rw [HW.out] at hgrow1 hown1
  have EW : w.heap.size + 1 + 1 = w0.heap.size := by rw [← HW.out]; simp
  have hb1 : Below w0.heap.size w0 w3 := (Below.refl _ _).grown hgrow1 (Nat.le_refl _) (by simp)
  rw [show (Value.int .i64 0).cells = #[Value.int .i64 0] from rfl, Nat.mul_one, toList_madeCells_one] at hown1
  have HO1 := Lib.hid (show OwnI w0.heap.size w3.heap.size w3 (.slice (some ⟨w0.heap.size, 0, none⟩) r0.length r0.length) (List.replicate r0.length 0) from OwnI.of (by rw [List.map_replicate, List.length_replicate]; exact hown1))
  replace x1_0 := cell_below hb1 x1_0 (by omega)
  replace x1_1 := cell_below hb1 x1_1 (by omega)
  replace f1_0 := fro_below hb1 f1_0 (by omega)
  replace f1_1 := fro_below hb1 f1_1 (by omega)
  have HB3 := Lib.hid (HB0.out.trans (hb1.mono (by omega)))
  have hs3 := hb1.size
  clear hown1 hb1 hgrow1 x0_0 hc0 hc9
  go_wp2_with fail
  refine bodyPost_ret (v := .agg #[.slice (some ⟨w0.heap.size, 0, none⟩) r0.length r0.length, .int .i64 0]) (by simp [results, Try.results117, go_sem, x1_0, x1_1]) rfl ⟨_, rfl, ?_, ?_⟩
  · simp only [size_set]
    exact ((HO1.out.set (by simp; omega) _).set (by simp; omega) _).mono (by omega) (Nat.le_refl _)
  · exact (HB3.out.setCell (by simp) _).setCell (by simp) _
theorem cell_setI {w : World} {b : Nat} {x u : Value} (h : w.cell? ⟨b, 1, none⟩ = some x) : (w.setCell ⟨b, 0, none⟩ u).cell? ⟨b, 1, none⟩ = some x := (World.cell?_setCell_other _ _ _ _ (by simp)).trans h
theorem pc_len {rows : List (List Int)} {zs cs : List Int} (h : pcB rows zs cs = true) : (pcW rows zs cs).length ≤ 4 := by
  have h' : ((margin.hpB rows zs = true ∧ cs.length = rows.length) ∧ numsR 0 999 cs = true) ∧ planeB (pcW rows zs cs) (cb zs cs rows.length) = true := by simpa [pcB, cntB] using h
  exact ((planeB_iff _ _).1 h'.2).2.1
set_option maxRecDepth 100000 in
set_option maxHeartbeats 4000000 in
theorem impl_no1 (a : Option Addr) (rows : List (List Int)) (c : Nat) (a' : Option Addr) (zs : List Int) (c' : Nat) (p : Option Addr) (cs : List Int) (q : Nat) (w : World) (hr : grid.Reads w a rows) (hz : ints.Reads .i64 w a' zs) (hq : ints.Reads .i64 w p cs) (hn : rows.length ≤ 1048576) (hk : zs.length ≤ 1048576) (hm : ∀ r ∈ rows, r.length ≤ 1048576) (hw : cs.length ≤ 1048576) (h : Hid (margin.hpB rows zs = false)) :
    Calls Try.prog 60 #[.agg #[.slice a rows.length c, .slice a' zs.length c'], .slice p cs.length q] w (RetPB [] 0 false w) := by
  have HMM := Lib.hid hm
  clear hm
  have Hhr := Lib.hid hr
  have Hhz := Lib.hid hz
  have Hhq := Lib.hid hq
  clear hr hz hq
  go_enter Try.func60, Try.ntmps60
  go_wp2_with fail
  have x0_0 : (w.alloc (.cells #[.slice a rows.length c, .slice a' zs.length c'] 27)).cell? ⟨w.heap.size, 0, none⟩ = some (.slice a rows.length c) := cell_new _ _ _ (by simp) rfl
  have x0_1 : (w.alloc (.cells #[.slice a rows.length c, .slice a' zs.length c'] 27)).cell? ⟨w.heap.size, 1, none⟩ = some (.slice a' zs.length c') := cell_new _ _ _ (by simp) rfl
  have HB0 := Lib.hid (below_alloc w (.cells #[.slice a rows.length c, .slice a' zs.length c'] 27))
  replace x0_0 := cell_old (.cells #[.slice none 0 0, .int .i64 0] 46) x0_0
  replace x0_1 := cell_old (.cells #[.slice none 0 0, .int .i64 0] 46) x0_1
  have x1_0 : ((w.alloc (.cells #[.slice a rows.length c, .slice a' zs.length c'] 27)).alloc (.cells #[.slice none 0 0, .int .i64 0] 46)).cell? ⟨w.heap.size + 1, 0, none⟩ = some (.slice none 0 0) := cell_new _ _ _ (by simp) rfl
  have x1_1 : ((w.alloc (.cells #[.slice a rows.length c, .slice a' zs.length c'] 27)).alloc (.cells #[.slice none 0 0, .int .i64 0] 46)).cell? ⟨w.heap.size + 1, 1, none⟩ = some (.int .i64 0) := cell_new _ _ _ (by simp) rfl
  have f1_0 : ((w.alloc (.cells #[.slice a rows.length c, .slice a' zs.length c'] 27)).alloc (.cells #[.slice none 0 0, .int .i64 0] 46)).frozen? ⟨w.heap.size + 1, 0, none⟩ = false := fro_new _ _ _ (by simp)
  have f1_1 : ((w.alloc (.cells #[.slice a rows.length c, .slice a' zs.length c'] 27)).alloc (.cells #[.slice none 0 0, .int .i64 0] 46)).frozen? ⟨w.heap.size + 1, 1, none⟩ = false := fro_new _ _ _ (by simp)
  replace HB0 := Lib.hid (HB0.out.alloc (by simp) (.cells #[.slice none 0 0, .int .i64 0] 46))
  have s0 : w.heap.size + 2 ≤ ((w.alloc (.cells #[.slice a rows.length c, .slice a' zs.length c'] 27)).alloc (.cells #[.slice none 0 0, .int .i64 0] 46)).heap.size := by simp
  generalize hw : ((w.alloc (.cells #[.slice a rows.length c, .slice a' zs.length c'] 27)).alloc (.cells #[.slice none 0 0, .int .i64 0] 46)) = w0 at *
  clear hw
  have n0_0 : w.heap.size < w0.heap.size := by omega
  have n0_1 : w.heap.size + 1 < w0.heap.size := by omega
  refine (margin.impl_hasPoints a rows c a' zs c' _ (Hhr.out.below HB0.out) (Hhz.out.below HB0.out) hn hk HMM.out false h).mono ?_
  rintro e w1 ⟨rfl, hb⟩
  have s1 : w0.heap.size ≤ w1.heap.size := hb.size
  have n1_0 : w.heap.size < w1.heap.size := by omega
  have n1_1 : w.heap.size + 1 < w1.heap.size := by omega
  replace x0_0 := cell_below hb x0_0 (by omega)
  replace x0_1 := cell_below hb x0_1 (by omega)
  replace x1_0 := cell_below hb x1_0 (by omega)
  replace x1_1 := cell_below hb x1_1 (by omega)
  replace f1_0 := fro_below hb f1_0 (by omega)
  replace f1_1 := fro_below hb f1_1 (by omega)
  have HB1 := Lib.hid (HB0.out.trans (hb.mono (by omega)))
  clear hb
  go_wp2_with fail
  refine bodyPost_ret (v := .tuple #[.agg #[.slice none 0 0, .int .i64 0], .bool false]) (by simp [results, Try.results60, go_sem, x1_0, x1_1]) rfl ⟨_, rfl, OwnI.nil _ _ _, ?_⟩
  first | exact ((HB1.out.setCell (by simp) _).setCell (by simp) _) | exact HB1.out
set_option maxRecDepth 100000 in
set_option maxHeartbeats 4000000 in
theorem impl_no2 (a : Option Addr) (rows : List (List Int)) (c : Nat) (a' : Option Addr) (zs : List Int) (c' : Nat) (p : Option Addr) (cs : List Int) (q : Nat) (w : World) (hr : grid.Reads w a rows) (hz : ints.Reads .i64 w a' zs) (hq : ints.Reads .i64 w p cs) (hn : rows.length ≤ 1048576) (hk : zs.length ≤ 1048576) (hm : ∀ r ∈ rows, r.length ≤ 1048576) (hw : cs.length ≤ 1048576) (h1 : Hid (margin.hpB rows zs = true)) (hl : cs.length ≠ rows.length) :
    Calls Try.prog 60 #[.agg #[.slice a rows.length c, .slice a' zs.length c'], .slice p cs.length q] w (RetPB [] 0 false w) := by
  have HMM := Lib.hid hm
  clear hm
  have g1 : ((cs.length : Int) != (rows.length : Int)) = true := by rw [bne_iff_ne]; omega
  clear hl
  have Hhr := Lib.hid hr
  have Hhz := Lib.hid hz
  have Hhq := Lib.hid hq
  clear hr hz hq
  go_enter Try.func60, Try.ntmps60
  go_wp2_with fail
  have x0_0 : (w.alloc (.cells #[.slice a rows.length c, .slice a' zs.length c'] 27)).cell? ⟨w.heap.size, 0, none⟩ = some (.slice a rows.length c) := cell_new _ _ _ (by simp) rfl
  have x0_1 : (w.alloc (.cells #[.slice a rows.length c, .slice a' zs.length c'] 27)).cell? ⟨w.heap.size, 1, none⟩ = some (.slice a' zs.length c') := cell_new _ _ _ (by simp) rfl
  have HB0 := Lib.hid (below_alloc w (.cells #[.slice a rows.length c, .slice a' zs.length c'] 27))
  replace x0_0 := cell_old (.cells #[.slice none 0 0, .int .i64 0] 46) x0_0
  replace x0_1 := cell_old (.cells #[.slice none 0 0, .int .i64 0] 46) x0_1
  have x1_0 : ((w.alloc (.cells #[.slice a rows.length c, .slice a' zs.length c'] 27)).alloc (.cells #[.slice none 0 0, .int .i64 0] 46)).cell? ⟨w.heap.size + 1, 0, none⟩ = some (.slice none 0 0) := cell_new _ _ _ (by simp) rfl
  have x1_1 : ((w.alloc (.cells #[.slice a rows.length c, .slice a' zs.length c'] 27)).alloc (.cells #[.slice none 0 0, .int .i64 0] 46)).cell? ⟨w.heap.size + 1, 1, none⟩ = some (.int .i64 0) := cell_new _ _ _ (by simp) rfl
  have f1_0 : ((w.alloc (.cells #[.slice a rows.length c, .slice a' zs.length c'] 27)).alloc (.cells #[.slice none 0 0, .int .i64 0] 46)).frozen? ⟨w.heap.size + 1, 0, none⟩ = false := fro_new _ _ _ (by simp)
  have f1_1 : ((w.alloc (.cells #[.slice a rows.length c, .slice a' zs.length c'] 27)).alloc (.cells #[.slice none 0 0, .int .i64 0] 46)).frozen? ⟨w.heap.size + 1, 1, none⟩ = false := fro_new _ _ _ (by simp)
  replace HB0 := Lib.hid (HB0.out.alloc (by simp) (.cells #[.slice none 0 0, .int .i64 0] 46))
  have s0 : w.heap.size + 2 ≤ ((w.alloc (.cells #[.slice a rows.length c, .slice a' zs.length c'] 27)).alloc (.cells #[.slice none 0 0, .int .i64 0] 46)).heap.size := by simp
  generalize hw : ((w.alloc (.cells #[.slice a rows.length c, .slice a' zs.length c'] 27)).alloc (.cells #[.slice none 0 0, .int .i64 0] 46)) = w0 at *
  clear hw
  have n0_0 : w.heap.size < w0.heap.size := by omega
  have n0_1 : w.heap.size + 1 < w0.heap.size := by omega
  refine (margin.impl_hasPoints a rows c a' zs c' _ (Hhr.out.below HB0.out) (Hhz.out.below HB0.out) hn hk HMM.out true h1).mono ?_
  rintro e w1 ⟨rfl, hb⟩
  have s1 : w0.heap.size ≤ w1.heap.size := hb.size
  have n1_0 : w.heap.size < w1.heap.size := by omega
  have n1_1 : w.heap.size + 1 < w1.heap.size := by omega
  replace x0_0 := cell_below hb x0_0 (by omega)
  replace x0_1 := cell_below hb x0_1 (by omega)
  replace x1_0 := cell_below hb x1_0 (by omega)
  replace x1_1 := cell_below hb x1_1 (by omega)
  replace f1_0 := fro_below hb f1_0 (by omega)
  replace f1_1 := fro_below hb f1_1 (by omega)
  have HB1 := Lib.hid (HB0.out.trans (hb.mono (by omega)))
  clear hb
  go_wp2_with fail
  refine bodyPost_ret (v := .tuple #[.agg #[.slice none 0 0, .int .i64 0], .bool false]) (by simp [results, Try.results60, go_sem, x1_0, x1_1]) rfl ⟨_, rfl, OwnI.nil _ _ _, ?_⟩
  first | exact ((HB1.out.setCell (by simp) _).setCell (by simp) _) | exact HB1.out
set_option maxRecDepth 100000 in
set_option maxHeartbeats 4000000 in
theorem impl_no3 (a : Option Addr) (rows : List (List Int)) (c : Nat) (a' : Option Addr) (zs : List Int) (c' : Nat) (p : Option Addr) (cs : List Int) (q : Nat) (w : World) (hr : grid.Reads w a rows) (hz : ints.Reads .i64 w a' zs) (hq : ints.Reads .i64 w p cs) (hn : rows.length ≤ 1048576) (hk : zs.length ≤ 1048576) (hm : ∀ r ∈ rows, r.length ≤ 1048576) (hw : cs.length ≤ 1048576) (h1 : Hid (margin.hpB rows zs = true)) (hl : cs.length = rows.length) (h : Hid (numsR 0 999 cs = false)) :
    Calls Try.prog 60 #[.agg #[.slice a rows.length c, .slice a' zs.length c'], .slice p cs.length q] w (RetPB [] 0 false w) := by
  have HMM := Lib.hid hm
  clear hm
  have g1 : ((cs.length : Int) != (rows.length : Int)) = false := by rw [bne_eq_false_iff_eq]; omega
  clear hl
  have Hhr := Lib.hid hr
  have Hhz := Lib.hid hz
  have Hhq := Lib.hid hq
  clear hr hz hq
  go_enter Try.func60, Try.ntmps60
  go_wp2_with fail
  have x0_0 : (w.alloc (.cells #[.slice a rows.length c, .slice a' zs.length c'] 27)).cell? ⟨w.heap.size, 0, none⟩ = some (.slice a rows.length c) := cell_new _ _ _ (by simp) rfl
  have x0_1 : (w.alloc (.cells #[.slice a rows.length c, .slice a' zs.length c'] 27)).cell? ⟨w.heap.size, 1, none⟩ = some (.slice a' zs.length c') := cell_new _ _ _ (by simp) rfl
  have HB0 := Lib.hid (below_alloc w (.cells #[.slice a rows.length c, .slice a' zs.length c'] 27))
  replace x0_0 := cell_old (.cells #[.slice none 0 0, .int .i64 0] 46) x0_0
  replace x0_1 := cell_old (.cells #[.slice none 0 0, .int .i64 0] 46) x0_1
  have x1_0 : ((w.alloc (.cells #[.slice a rows.length c, .slice a' zs.length c'] 27)).alloc (.cells #[.slice none 0 0, .int .i64 0] 46)).cell? ⟨w.heap.size + 1, 0, none⟩ = some (.slice none 0 0) := cell_new _ _ _ (by simp) rfl
  have x1_1 : ((w.alloc (.cells #[.slice a rows.length c, .slice a' zs.length c'] 27)).alloc (.cells #[.slice none 0 0, .int .i64 0] 46)).cell? ⟨w.heap.size + 1, 1, none⟩ = some (.int .i64 0) := cell_new _ _ _ (by simp) rfl
  have f1_0 : ((w.alloc (.cells #[.slice a rows.length c, .slice a' zs.length c'] 27)).alloc (.cells #[.slice none 0 0, .int .i64 0] 46)).frozen? ⟨w.heap.size + 1, 0, none⟩ = false := fro_new _ _ _ (by simp)
  have f1_1 : ((w.alloc (.cells #[.slice a rows.length c, .slice a' zs.length c'] 27)).alloc (.cells #[.slice none 0 0, .int .i64 0] 46)).frozen? ⟨w.heap.size + 1, 1, none⟩ = false := fro_new _ _ _ (by simp)
  replace HB0 := Lib.hid (HB0.out.alloc (by simp) (.cells #[.slice none 0 0, .int .i64 0] 46))
  have s0 : w.heap.size + 2 ≤ ((w.alloc (.cells #[.slice a rows.length c, .slice a' zs.length c'] 27)).alloc (.cells #[.slice none 0 0, .int .i64 0] 46)).heap.size := by simp
  generalize hw : ((w.alloc (.cells #[.slice a rows.length c, .slice a' zs.length c'] 27)).alloc (.cells #[.slice none 0 0, .int .i64 0] 46)) = w0 at *
  clear hw
  have n0_0 : w.heap.size < w0.heap.size := by omega
  have n0_1 : w.heap.size + 1 < w0.heap.size := by omega
  refine (margin.impl_hasPoints a rows c a' zs c' _ (Hhr.out.below HB0.out) (Hhz.out.below HB0.out) hn hk HMM.out true h1).mono ?_
  rintro e w1 ⟨rfl, hb⟩
  have s1 : w0.heap.size ≤ w1.heap.size := hb.size
  have n1_0 : w.heap.size < w1.heap.size := by omega
  have n1_1 : w.heap.size + 1 < w1.heap.size := by omega
  replace x0_0 := cell_below hb x0_0 (by omega)
  replace x0_1 := cell_below hb x0_1 (by omega)
  replace x1_0 := cell_below hb x1_0 (by omega)
  replace x1_1 := cell_below hb x1_1 (by omega)
  replace f1_0 := fro_below hb f1_0 (by omega)
  replace f1_1 := fro_below hb f1_1 (by omega)
  have HB1 := Lib.hid (HB0.out.trans (hb.mono (by omega)))
  clear hb
  go_wp2_with fail
  refine (impl_range p cs q 999 _ (Hhq.out.below HB1.out) hw false h).mono ?_
  rintro e w2 ⟨rfl, hb⟩
  have s2 : w1.heap.size ≤ w2.heap.size := hb.size
  have n2_0 : w.heap.size < w2.heap.size := by omega
  have n2_1 : w.heap.size + 1 < w2.heap.size := by omega
  replace x0_0 := cell_below hb x0_0 (by omega)
  replace x0_1 := cell_below hb x0_1 (by omega)
  replace x1_0 := cell_below hb x1_0 (by omega)
  replace x1_1 := cell_below hb x1_1 (by omega)
  replace f1_0 := fro_below hb f1_0 (by omega)
  replace f1_1 := fro_below hb f1_1 (by omega)
  have HB2 := Lib.hid (HB1.out.trans (hb.mono (by omega)))
  clear hb
  go_wp2_with fail
  refine bodyPost_ret (v := .tuple #[.agg #[.slice none 0 0, .int .i64 0], .bool false]) (by simp [results, Try.results60, go_sem, x1_0, x1_1]) rfl ⟨_, rfl, OwnI.nil _ _ _, ?_⟩
  first | exact ((HB2.out.setCell (by simp) _).setCell (by simp) _) | exact HB2.out
set_option maxRecDepth 100000 in
set_option maxHeartbeats 4000000 in
theorem impl_out (a : Option Addr) (rows : List (List Int)) (c : Nat) (a' : Option Addr) (zs : List Int) (c' : Nat) (p : Option Addr) (cs : List Int) (q : Nat) (w : World) (hr : grid.Reads w a rows) (hz : ints.Reads .i64 w a' zs) (hq : ints.Reads .i64 w p cs) (hn : rows.length ≤ 1048576) (hk : zs.length ≤ 1048576) (hm : ∀ r ∈ rows, r.length ≤ 1048576) (hw : cs.length ≤ 1048576) (hp : Hid (margin.hpB rows zs = true)) (hl : cs.length = rows.length) (h : Hid (numsR 0 999 cs = true)) (HK : Hid (planeB (pcW rows zs cs) (cb zs cs rows.length) = false)) :
    Calls Try.prog 60 #[.agg #[.slice a rows.length c, .slice a' zs.length c'], .slice p cs.length q] w (RetPB [] 0 false w) := by
  have HMM := Lib.hid hm
  clear hm
  obtain ⟨hcf, hd, s16, hzl, hpos⟩ := cf_of (cs := cs) hp.out
  have HCF := Lib.hid hcf
  have HD4 := Lib.hid hd
  have HLn := Lib.hid hzl
  have HLC := Lib.hid hl
  have HNR := h
  have g1 : ((cs.length : Int) != (rows.length : Int)) = false := by rw [bne_eq_false_iff_eq]; omega
  clear hcf hd hzl hl
  have Hhr := Lib.hid hr
  have Hhz := Lib.hid hz
  have Hhq := Lib.hid hq
  clear hr hz hq
  go_enter Try.func60, Try.ntmps60
  go_wp2_with fail
  have x0_0 : (w.alloc (.cells #[.slice a rows.length c, .slice a' zs.length c'] 27)).cell? ⟨w.heap.size, 0, none⟩ = some (.slice a rows.length c) := cell_new _ _ _ (by simp) rfl
  have x0_1 : (w.alloc (.cells #[.slice a rows.length c, .slice a' zs.length c'] 27)).cell? ⟨w.heap.size, 1, none⟩ = some (.slice a' zs.length c') := cell_new _ _ _ (by simp) rfl
  have HB0 := Lib.hid (below_alloc w (.cells #[.slice a rows.length c, .slice a' zs.length c'] 27))
  replace x0_0 := cell_old (.cells #[.slice none 0 0, .int .i64 0] 46) x0_0
  replace x0_1 := cell_old (.cells #[.slice none 0 0, .int .i64 0] 46) x0_1
  have x1_0 : ((w.alloc (.cells #[.slice a rows.length c, .slice a' zs.length c'] 27)).alloc (.cells #[.slice none 0 0, .int .i64 0] 46)).cell? ⟨w.heap.size + 1, 0, none⟩ = some (.slice none 0 0) := cell_new _ _ _ (by simp) rfl
  have x1_1 : ((w.alloc (.cells #[.slice a rows.length c, .slice a' zs.length c'] 27)).alloc (.cells #[.slice none 0 0, .int .i64 0] 46)).cell? ⟨w.heap.size + 1, 1, none⟩ = some (.int .i64 0) := cell_new _ _ _ (by simp) rfl
  have f1_0 : ((w.alloc (.cells #[.slice a rows.length c, .slice a' zs.length c'] 27)).alloc (.cells #[.slice none 0 0, .int .i64 0] 46)).frozen? ⟨w.heap.size + 1, 0, none⟩ = false := fro_new _ _ _ (by simp)
  have f1_1 : ((w.alloc (.cells #[.slice a rows.length c, .slice a' zs.length c'] 27)).alloc (.cells #[.slice none 0 0, .int .i64 0] 46)).frozen? ⟨w.heap.size + 1, 1, none⟩ = false := fro_new _ _ _ (by simp)
  replace HB0 := Lib.hid (HB0.out.alloc (by simp) (.cells #[.slice none 0 0, .int .i64 0] 46))
  have s0 : w.heap.size + 2 ≤ ((w.alloc (.cells #[.slice a rows.length c, .slice a' zs.length c'] 27)).alloc (.cells #[.slice none 0 0, .int .i64 0] 46)).heap.size := by simp
  generalize hw : ((w.alloc (.cells #[.slice a rows.length c, .slice a' zs.length c'] 27)).alloc (.cells #[.slice none 0 0, .int .i64 0] 46)) = w0 at *
  clear hw
  have n0_0 : w.heap.size < w0.heap.size := by omega
  have n0_1 : w.heap.size + 1 < w0.heap.size := by omega
  refine (margin.impl_hasPoints a rows c a' zs c' _ (Hhr.out.below HB0.out) (Hhz.out.below HB0.out) hn hk HMM.out true hp).mono ?_
  rintro e w1 ⟨rfl, hb⟩
  have s1 : w0.heap.size ≤ w1.heap.size := hb.size
  have n1_0 : w.heap.size < w1.heap.size := by omega
  have n1_1 : w.heap.size + 1 < w1.heap.size := by omega
  replace x0_0 := cell_below hb x0_0 (by omega)
  replace x0_1 := cell_below hb x0_1 (by omega)
  replace x1_0 := cell_below hb x1_0 (by omega)
  replace x1_1 := cell_below hb x1_1 (by omega)
  replace f1_0 := fro_below hb f1_0 (by omega)
  replace f1_1 := fro_below hb f1_1 (by omega)
  have HB1 := Lib.hid (HB0.out.trans (hb.mono (by omega)))
  clear hb
  go_wp2_with fail
  refine (impl_range p cs q 999 _ (Hhq.out.below HB1.out) hw true h).mono ?_
  rintro e w2 ⟨rfl, hb⟩
  have s2 : w1.heap.size ≤ w2.heap.size := hb.size
  have n2_0 : w.heap.size < w2.heap.size := by omega
  have n2_1 : w.heap.size + 1 < w2.heap.size := by omega
  replace x0_0 := cell_below hb x0_0 (by omega)
  replace x0_1 := cell_below hb x0_1 (by omega)
  replace x1_0 := cell_below hb x1_0 (by omega)
  replace x1_1 := cell_below hb x1_1 (by omega)
  replace f1_0 := fro_below hb f1_0 (by omega)
  replace f1_1 := fro_below hb f1_1 (by omega)
  have HB2 := Lib.hid (HB1.out.trans (hb.mono (by omega)))
  clear hb
  obtain ⟨bl, off, rp0, rq0, hab, hbl, hc0, _, _⟩ := (Hhr.out.below HB2.out).at (k := 0) hpos
  subst hab
  rw [Nat.add_zero] at hc0
  have HC0 := Lib.hid hc0
  have HFP := Lib.hid (impl_first bl off rows.length c (.slice a' zs.length c') (rows.getD 0 []) rp0 rq0 w2 hpos hbl hc0 HD4.out a' zs.length c' rfl)
  clear hc0
  generalize hr0 : rows.getD 0 [] = r0 at *
  go_wp2_with fail
  refine (HFP.out).mono ?_
  rintro e w3 ⟨pv0, rfl, ho, hb⟩
  obtain ⟨p0, q0, rfl, _, _, _⟩ := ho.slice
  rw [List.length_replicate] at ho
  have HO := Lib.hid ho
  clear ho
  have s3 : w2.heap.size ≤ w3.heap.size := hb.size
  have n3_0 : w.heap.size < w3.heap.size := by omega
  have n3_1 : w.heap.size + 1 < w3.heap.size := by omega
  replace x0_0 := cell_below hb x0_0 (by omega)
  replace x0_1 := cell_below hb x0_1 (by omega)
  replace x1_0 := cell_below hb x1_0 (by omega)
  replace x1_1 := cell_below hb x1_1 (by omega)
  replace f1_0 := fro_below hb f1_0 (by omega)
  replace f1_1 := fro_below hb f1_1 (by omega)
  have HB3 := Lib.hid (HB2.out.trans (hb.mono (by omega)))
  clear hb
  go_wp2_with fail
  have HX := Lib.hid (show w3.cell? ⟨w.heap.size, 0, none⟩ = some (.slice (some ⟨bl, off, none⟩) rows.length c) ∧ w3.cell? ⟨w.heap.size, 1, none⟩ = some (.slice a' zs.length c') ∧ w3.cell? ⟨w.heap.size + 1, 0, none⟩ = some (.slice none 0 0) ∧ w3.cell? ⟨w.heap.size + 1, 1, none⟩ = some (.int .i64 0) ∧ w3.frozen? ⟨w.heap.size + 1, 0, none⟩ = false ∧ w3.frozen? ⟨w.heap.size + 1, 1, none⟩ = false from ⟨x0_0, x0_1, x1_0, x1_1, f1_0, f1_1⟩)
  obtain ⟨B, hB⟩ : ∃ B, B = w3.heap.size := ⟨_, rfl⟩
  have HBo := Lib.hid (show B < (w3.alloc (.cells #[.slice p0 r0.length q0, .int .i64 0] 46)).heap.size from by rw [hB]; simp)
  have HQ0 := Lib.hid (show (w3.alloc (.cells #[.slice p0 r0.length q0, .int .i64 0] 46)).cell? ⟨B, 0, none⟩ = some (.slice p0 r0.length q0) ∧ (w3.alloc (.cells #[.slice p0 r0.length q0, .int .i64 0] 46)).cell? ⟨B, 1, none⟩ = some (.int .i64 (0)) ∧ (w3.alloc (.cells #[.slice p0 r0.length q0, .int .i64 0] 46)).frozen? ⟨B, 0, none⟩ = false ∧ (w3.alloc (.cells #[.slice p0 r0.length q0, .int .i64 0] 46)).frozen? ⟨B, 1, none⟩ = false from ⟨cell_new _ _ _ hB rfl, cell_new _ _ _ hB rfl, fro_new _ _ _ hB, fro_new _ _ _ hB⟩)
  have x0_0 := cell_old (.cells #[.slice p0 r0.length q0, .int .i64 0] 46) x0_0
  have HOw := Lib.hid ((HO.out.below (below_alloc w3 (.cells #[.slice p0 r0.length q0, .int .i64 0] 46))).mono (Nat.le_refl _) (show w3.heap.size ≤ (w3.alloc (.cells #[.slice p0 r0.length q0, .int .i64 0] 46)).heap.size by simp))
  have HBl0 := Lib.hid (below_alloc w3 (.cells #[.slice p0 r0.length q0, .int .i64 0] 46))
  have HBD := HB3
  have HsD := Lib.hid (show w2.heap.size ≤ w3.heap.size from s3)
  rw [← hB]
  generalize (w3.alloc (.cells #[.slice p0 r0.length q0, .int .i64 0] 46)) = w9 at *
  have HST := Lib.hid (show ∃ (pv : Option Addr) (qv : Nat), (w9.cell? ⟨B, 0, none⟩ = some ((.slice pv (cw rows zs cs r0.length 0).length qv)) ∧ w9.cell? ⟨B, 1, none⟩ = some (.int .i64 (cb zs cs 0)) ∧ w9.frozen? ⟨B, 0, none⟩ = false ∧ w9.frozen? ⟨B, 1, none⟩ = false) ∧ OwnI w2.heap.size w9.heap.size w9 (.slice pv (cw rows zs cs r0.length 0).length qv) (cw rows zs cs r0.length 0) from by
    have e : (cw rows zs cs r0.length 0).length = r0.length := cw_length rows zs cs r0.length 0
    rw [e]
    exact ⟨p0, q0, HQ0.out, HOw.out⟩)
  clear HQ0 HOw HO x0_1 x1_0 x1_1 f1_0 f1_1
  have hsB : w.heap.size + 1 < B := by omega
  have hCB : w2.heap.size ≤ B := by omega
  have hDB : w3.heap.size ≤ B := by omega
  have HBe := Lib.hid hB
  clear hB
  go_wp2_with fail
  go_loopw [31] (fun i wr => ∃ k : Nat, k ≤ rows.length ∧ i = .int .i64 k ∧ Hid (∃ (pv : Option Addr) (qv : Nat), (wr.cell? ⟨B, 0, none⟩ = some ((.slice pv (cw rows zs cs r0.length k).length qv)) ∧ wr.cell? ⟨B, 1, none⟩ = some (.int .i64 (cb zs cs k)) ∧ wr.frozen? ⟨B, 0, none⟩ = false ∧ wr.frozen? ⟨B, 1, none⟩ = false) ∧ OwnI w2.heap.size wr.heap.size wr (.slice pv (cw rows zs cs r0.length k).length qv) (cw rows zs cs r0.length k)) ∧ Hid (Below B w3 wr) ∧ Hid (B < wr.heap.size)) (fun i _ => rows.length - (intOf i).toNat)
  case atStart => exact ⟨0, Nat.zero_le _, rfl, HST, Lib.hid (by rw [HBe.out]; exact HBl0.out), HBo⟩
  case round =>
    obtain ⟨k, hk', rfl, HS, HBl, HBr⟩ := hrel
    clear HST x0_0
    obtain ⟨pv, qv, HQc, HOw⟩ := HS.out
    clear HS
    have hbel := HBl.out
    have hsz := HBr.out
    by_cases hlt : k < rows.length
    · obtain ⟨qb, qo, hqb, hql, hqc⟩ := (Hhq.out.below HBD.out).at (k := k) (by have := HLC.out; omega)
      subst hqb
      obtain ⟨bl', off', rp, rq, hab, hbl', hc, hpq, hrow⟩ := (Hhr.out.below HBD.out).at hlt
      obtain ⟨rfl, rfl⟩ : bl = bl' ∧ off = off' := by cases hab; exact ⟨rfl, rfl⟩
      obtain ⟨lb, lo, hlb, hll, hlc⟩ := (Hhz.out.below HBD.out).at (k := k) (by have := HLn.out; omega)
      subst hlb
      have hin := numsR_at HNR.out k (by have := HLC.out; omega)
      have HFt := Lib.hid (cw_fit HCF.out HD4.out s16 k hlt (fun j hj => numsR_at HNR.out j (by have := HLC.out; omega)))
      have HCW := Lib.hid (show added (cw rows zs cs r0.length k) (rows.getD k []) (zs.getD k 0 * cs.getD k 0) = cw rows zs cs r0.length (k + 1) from rfl)
      have HCB := Lib.hid (show cb zs cs k - zs.getD k 0 * cs.getD k 0 = cb zs cs (k + 1) from rfl)
      have HN := Lib.hid (cw_length rows zs cs r0.length k)
      have xl := cell_below hbel HX.out.2.1 (by omega)
      replace hqc := cell_below hbel hqc (by omega)
      replace hlc := cell_below hbel hlc (by omega)
      replace hc := cell_below hbel hc (by omega)
      have HR0 := Lib.hid hrow
      have i1 : (0 : Int) ≤ (k : Int) := by omega
      have i2 : (k : Int) < (rows.length : Int) := by omega
      have i3 : (k : Int) < (zs.length : Int) := by have := HLn.out; omega
      have i4 : (k : Int) < (cs.length : Int) := by have := HLC.out; omega
      clear hrow hpq hab
      generalize rows.getD k [] = r at *
      generalize cw rows zs cs r0.length k = vs at *
      generalize cb zs cs k = bb at *
      generalize cs.getD k 0 = cc at *
      generalize zs.getD k 0 = zz at *
      obtain ⟨tt, htt⟩ : ∃ tt, tt = zz * cc := ⟨_, rfl⟩
      rw [← htt] at HFt HCW HCB
      have e2 : IntKind.i64.wrap (zz * cc) = tt := by have := HFt.out.tbd; rw [← htt]; exact IntWalk.i64_in _ (by omega)
      clear htt
      have HBX := Lib.hid hbel
      have HOW := Lib.hid HOw
      have HQQ := Lib.hid HQc
      have y0 := HQc.1
      have y1 := HQc.2.1
      have hzr := hsz
      clear HOw HQc
      have HRD := Lib.hid (show ∀ wa : World, Below B w3 wa → ints.Reads .i64 wa rp r from fun wa h => HR0.out.below (h.mono (by omega)))
      have HT0 := Lib.hid (show ∀ wa : World, (wa.cell? ⟨w.heap.size, 1, none⟩ = some (.slice (some ⟨lb, lo, none⟩) zs.length c') ∧ wa.cell? ⟨lb, lo + k, none⟩ = some (.int .i64 zz) ∧ wa.cell? ⟨qb, qo + k, none⟩ = some (.int .i64 cc) ∧ wr.heap.size ≤ wa.heap.size ∧ Below B w3 wa) → (wa.cell? ⟨B, 0, none⟩ = some (.slice pv vs.length qv) ∧ wa.cell? ⟨B, 1, none⟩ = some (.int .i64 (bb)) ∧ wa.frozen? ⟨B, 0, none⟩ = false ∧ wa.frozen? ⟨B, 1, none⟩ = false) → OwnI w2.heap.size wr.heap.size wa (.slice pv vs.length qv) vs → Calls Try.prog 110 #[.agg #[.slice pv vs.length qv, .int .i64 bb], .slice rp r.length rq, .int .i64 tt] wa (fun e w' => ∃ (p1 : Option Addr) (q1 : Nat), e = .returned (.agg #[.slice p1 (added vs r tt).length q1, .int .i64 (bb - tt)]) ∧ OwnI wr.heap.size w'.heap.size w' (.slice p1 (added vs r tt).length q1) (added vs r tt) ∧ (w'.cell? ⟨B, 0, none⟩ = some (.slice pv vs.length qv) ∧ w'.cell? ⟨B, 1, none⟩ = some (.int .i64 (bb)) ∧ w'.frozen? ⟨B, 0, none⟩ = false ∧ w'.frozen? ⟨B, 1, none⟩ = false) ∧ w'.cell? ⟨w.heap.size, 1, none⟩ = some (.slice (some ⟨lb, lo, none⟩) zs.length c') ∧ w'.cell? ⟨lb, lo + k, none⟩ = some (.int .i64 zz) ∧ w'.cell? ⟨qb, qo + k, none⟩ = some (.int .i64 cc) ∧ wr.heap.size ≤ w'.heap.size ∧ Below B w3 w') from fun wa hS hQ hO => by
        have hwz := hS.2.2.2.1
        have hB' := hS.2.2.2.2
        have hRW : ints.Reads .i64 wa rp r := HRD.out wa hB'
        refine (impl_added pv vs qv bb rp r rq tt wa hO.reads hRW HFt.out).mono ?_
        rintro e w' ⟨v', rfl, ho, hb⟩
        obtain ⟨p1, q1, rfl, _, _, _⟩ := ho.slice
        exact ⟨p1, q1, rfl, ho.mono hwz (Nat.le_refl _), ⟨cell_below hb hQ.1 (by omega), cell_below hb hQ.2.1 (by omega), fro_below hb hQ.2.2.1 (by omega), fro_below hb hQ.2.2.2 (by omega)⟩, cell_below hb hS.1 (by omega), cell_below hb hS.2.1 (by omega), cell_below hb hS.2.2.1 (by omega), Nat.le_trans hwz hb.size, hB'.trans (hb.mono (by omega))⟩)
      go_wp2_with fail
      refine wp_region_noPanic ?_
      refine wp_region_held_drew (S := fun w' => w'.cell? ⟨w.heap.size, 1, none⟩ = some (.slice (some ⟨lb, lo, none⟩) zs.length c') ∧ w'.cell? ⟨lb, lo + k, none⟩ = some (.int .i64 zz) ∧ w'.cell? ⟨qb, qo + k, none⟩ = some (.int .i64 cc) ∧ wr.heap.size ≤ w'.heap.size ∧ Below B w3 w') (by kernel_rfl) ?_ (fun hHeld => ?_)
      · exact ⟨xl, hlc, hqc, Nat.le_refl _, HBX.out.drew⟩
      refine wpAnyH_take (i := 1) (v := ?_) rfl (by kernel_rfl) (by kernel_rfl) (by kernel_rfl) (fun _ _ _ h => h) (Or.inl ⟨by rfl, ?_⟩) (by assumption) ?_
      rotate_left
      · intro w9 hSw; (try dsimp only at hSw); go_simp; try with_reducible rfl
      try simp only [List.getElem_toArray, List.getElem_cons_succ, List.getElem_cons_zero, Act.put, List.setIfInBounds_toArray, List.set_cons_zero, List.set_cons_succ]
      refine wpAnyH_take (i := 2) (v := ?_) rfl (by kernel_rfl) (by kernel_rfl) (by kernel_rfl) (fun _ _ _ h => h) (Or.inl ⟨by rfl, ?_⟩) (by assumption) ?_
      rotate_left
      · intro w9 hSw; (try dsimp only at hSw); go_simp; try with_reducible rfl
      try simp only [List.getElem_toArray, List.getElem_cons_succ, List.getElem_cons_zero, Act.put, List.setIfInBounds_toArray, List.set_cons_zero, List.set_cons_succ]
      refine wpAnyH_take (i := 3) (v := ?_) rfl (by kernel_rfl) (by kernel_rfl) (by kernel_rfl) (fun _ _ _ h => h) (Or.inl ⟨by rfl, ?_⟩) (by assumption) ?_
      rotate_left
      · intro w9 hSw; (try dsimp only at hSw); go_simp; try with_reducible rfl
      try simp only [List.getElem_toArray, List.getElem_cons_succ, List.getElem_cons_zero, Act.put, List.setIfInBounds_toArray, List.set_cons_zero, List.set_cons_succ]
      refine wpAnyH_take (i := 4) (v := ?_) rfl (by kernel_rfl) (by kernel_rfl) (by kernel_rfl) (fun _ _ _ h => h) (Or.inl ⟨by rfl, ?_⟩) (by assumption) ?_
      rotate_left
      · intro w9 hSw; (try dsimp only at hSw); go_simp; try with_reducible rfl
      try simp only [List.getElem_toArray, List.getElem_cons_succ, List.getElem_cons_zero, Act.put, List.setIfInBounds_toArray, List.set_cons_zero, List.set_cons_succ]
      refine wpAnyH_take (i := 5) (v := ?_) rfl (by kernel_rfl) (by kernel_rfl) (by kernel_rfl) (fun _ _ _ h => h) (Or.inl ⟨by rfl, ?_⟩) (by assumption) ?_
      rotate_left
      · intro w9 hSw; (try dsimp only at hSw); go_simp; try with_reducible rfl
      try simp only [List.getElem_toArray, List.getElem_cons_succ, List.getElem_cons_zero, Act.put, List.setIfInBounds_toArray, List.set_cons_zero, List.set_cons_succ]
      refine wpAnyH_take (i := 6) (v := ?_) rfl (by kernel_rfl) (by kernel_rfl) (by kernel_rfl) (fun _ _ _ h => h) (Or.inl ⟨by rfl, ?_⟩) (by assumption) ?_
      rotate_left
      · intro w9 hSw; (try dsimp only at hSw); go_simp; try with_reducible rfl
      try simp only [List.getElem_toArray, List.getElem_cons_succ, List.getElem_cons_zero, Act.put, List.setIfInBounds_toArray, List.set_cons_zero, List.set_cons_succ]
      refine wpAnyH_take (i := 7) (v := ?_) rfl (by kernel_rfl) (by kernel_rfl) (by kernel_rfl) (fun _ _ _ h => h) (Or.inl ⟨by rfl, ?_⟩) (by assumption) ?_
      rotate_left
      · intro w9 hSw; (try dsimp only at hSw); go_simp; try with_reducible rfl
      try simp only [List.getElem_toArray, List.getElem_cons_succ, List.getElem_cons_zero, Act.put, List.setIfInBounds_toArray, List.set_cons_zero, List.set_cons_succ]
      refine wpAnyH_take (i := 8) (v := ?_) rfl (by kernel_rfl) (by kernel_rfl) (by kernel_rfl) (fun _ _ _ h => h) (Or.inl ⟨by rfl, ?_⟩) (by assumption) ?_
      rotate_left
      · intro w9 hSw; (try dsimp only at hSw); go_simp; try with_reducible rfl
      try simp only [List.getElem_toArray, List.getElem_cons_succ, List.getElem_cons_zero, Act.put, List.setIfInBounds_toArray, List.set_cons_zero, List.set_cons_succ]
      refine wpAnyH_take (i := 9) (v := ?_) rfl (by kernel_rfl) (by kernel_rfl) (by kernel_rfl) (fun _ _ _ h => h) (Or.inl ⟨by rfl, ?_⟩) (by assumption) ?_
      rotate_left
      · intro w9 hSw; (try dsimp only at hSw); go_simp; try with_reducible rfl
      try simp only [List.getElem_toArray, List.getElem_cons_succ, List.getElem_cons_zero, Act.put, List.setIfInBounds_toArray, List.set_cons_zero, List.set_cons_succ]
      refine wpAnyH_take (i := 10) (v := ?_) rfl (by kernel_rfl) (by kernel_rfl) (by kernel_rfl) (fun _ _ _ h => h) (Or.inl ⟨by rfl, ?_⟩) (by assumption) ?_
      rotate_left
      · intro w9 hSw; (try dsimp only at hSw); go_simp; try with_reducible rfl
      try simp only [List.getElem_toArray, List.getElem_cons_succ, List.getElem_cons_zero, Act.put, List.setIfInBounds_toArray, List.set_cons_zero, List.set_cons_succ]
      refine wpAnyH_take (i := 11) (v := ?_) rfl (by kernel_rfl) (by kernel_rfl) (by kernel_rfl) (fun _ _ _ h => h) (Or.inl ⟨by rfl, ?_⟩) (by assumption) ?_
      rotate_left
      · intro w9 hSw; (try dsimp only at hSw); go_simp; try with_reducible rfl
      try simp only [List.getElem_toArray, List.getElem_cons_succ, List.getElem_cons_zero, Act.put, List.setIfInBounds_toArray, List.set_cons_zero, List.set_cons_succ]
      refine wpAnyH_ready (rs := [0]) (by kernel_rfl) (by simp) ?_
      refine AllReadyH.cons rfl (fun K hK => ?_) ?_
      · go_simp
        refine hK.out _ _ ?_ (fun hHeld => ?_)
        · exact hHeld
        clear hK K
        try simp only [List.getElem_toArray, List.getElem_cons_succ, List.getElem_cons_zero, Act.put, List.setIfInBounds_toArray, List.set_cons_zero, List.set_cons_succ]
        refine wpAnyH_ready (rs := [12]) (by kernel_rfl) (by simp) ?_
        refine AllReadyH.cons rfl (fun K hK => ?_) ?_
        · go_simp
          refine Calls.mono (HT0.out _ ?_ ?_ ?_) ?_
          · exact hHeld
          · first | exact HQQ.out | exact ⟨HQQ.out.1, HQQ.out.2.1, HQQ.out.2.2.1, HQQ.out.2.2.2⟩
          · first | exact HOW.out | exact HOW.out.below (Below.refl _ _).drew
          rintro e va ⟨p1, q1, rfl, ho0, ⟨q0_0, q0_1, q0_2, q0_3⟩, hbx⟩
          have hx1 := Lib.hid hbx
          have ho1 := Lib.hid ho0
          clear ho0
          refine hK.out _ _ ?_ (fun hHeld => ?_)
          · exact hbx
          clear hK K
          try simp only [List.getElem_toArray, List.getElem_cons_succ, List.getElem_cons_zero, Act.put, List.setIfInBounds_toArray, List.set_cons_zero, List.set_cons_succ]
          refine wpAnyH_ready (rs := [13]) (by kernel_rfl) (by simp) ?_
          refine AllReadyH.cons rfl (fun K hK => ?_) ?_
          · go_simp
            refine hK.out _ _ ?_ (fun hHeld => ?_)
            · exact ⟨cell_set (cell_set hbx.1 (by simp; omega) _) (by simp; omega) _, cell_set (cell_set hbx.2.1 (by simp; omega) _) (by simp; omega) _, cell_set (cell_set hbx.2.2.1 (by simp; omega) _) (by simp; omega) _, by rw [size_set, size_set]; exact hbx.2.2.2.1, (hbx.2.2.2.2.setCell (by simp) _).setCell (by simp) _⟩
            clear hK K
            try simp only [List.getElem_toArray, List.getElem_cons_succ, List.getElem_cons_zero, Act.put, List.setIfInBounds_toArray, List.set_cons_zero, List.set_cons_succ]
            refine wpAnyH_done (by kernel_rfl) ?_ _
            refine NoPanic.normal ?_
            have HN2 := Lib.hid (show (((va.setCell ⟨B, 0, none⟩ (.slice p1 (added vs r tt).length q1)).setCell ⟨B, 1, none⟩ (.int .i64 (bb - tt))).cell? ⟨B, 0, none⟩ = some (.slice p1 (added vs r tt).length q1) ∧ ((va.setCell ⟨B, 0, none⟩ (.slice p1 (added vs r tt).length q1)).setCell ⟨B, 1, none⟩ (.int .i64 (bb - tt))).cell? ⟨B, 1, none⟩ = some (.int .i64 (bb - tt)) ∧ ((va.setCell ⟨B, 0, none⟩ (.slice p1 (added vs r tt).length q1)).setCell ⟨B, 1, none⟩ (.int .i64 (bb - tt))).frozen? ⟨B, 0, none⟩ = false ∧ ((va.setCell ⟨B, 0, none⟩ (.slice p1 (added vs r tt).length q1)).setCell ⟨B, 1, none⟩ (.int .i64 (bb - tt))).frozen? ⟨B, 1, none⟩ = false) ∧ OwnI w2.heap.size ((va.setCell ⟨B, 0, none⟩ (.slice p1 (added vs r tt).length q1)).setCell ⟨B, 1, none⟩ (.int .i64 (bb - tt))).heap.size ((va.setCell ⟨B, 0, none⟩ (.slice p1 (added vs r tt).length q1)).setCell ⟨B, 1, none⟩ (.int .i64 (bb - tt))) (.slice p1 (added vs r tt).length q1) (added vs r tt) from ⟨⟨(World.cell?_setCell_other _ _ _ _ (by simp)).trans (World.cell?_setCell_same _ _ _ q0_0), World.cell?_setCell_same _ _ _ (cell_setI q0_1), by simp only [World.frozen?_setCell]; exact q0_2, by simp only [World.frozen?_setCell]; exact q0_3⟩, by simp only [size_set]; exact ((ho1.out.set (by simp; omega) _).set (by simp; omega) _).mono (by omega) (Nat.le_refl _)⟩)
            have HB7 := Lib.hid hHeld.2.2.2.2
            have hs7 := hHeld.2.2.2.1
            clear q0_0 q0_1 q0_2 q0_3
            go_wp2_with fail
            go_roundw
            case rel => exact ⟨k + 1, by omega, by go_num, Lib.hid (by rw [← HCW.out, ← HCB.out]; exact ⟨p1, q1, HN2.out.1, HN2.out.2⟩), HB7, Lib.hid (by omega)⟩
            case measure => simp [intOf]; omega
          exact AllReadyH.nil
        exact AllReadyH.nil
      exact AllReadyH.nil
    · obtain rfl : k = rows.length := by omega
      have HN := Lib.hid (cw_length rows zs cs r0.length rows.length)
      have x1_0 := cell_below hbel HX.out.2.2.1 (by omega)
      have x1_1 := cell_below hbel HX.out.2.2.2.1 (by omega)
      have f1_0 := fro_below hbel HX.out.2.2.2.2.1 (by omega)
      have f1_1 := fro_below hbel HX.out.2.2.2.2.2 (by omega)
      have y0 := HQc.1
      have y1 := HQc.2.1
      have HKK := HK
      unfold pcW at HKK
      rw [hr0] at HKK
      have HV := Lib.hid (show pcW rows zs cs = cw rows zs cs r0.length rows.length from by unfold pcW; rw [hr0])
      have hd4 := HD4.out
      generalize cw rows zs cs r0.length rows.length = vs at *
      generalize cb zs cs rows.length = bb at *
      have HKP := Lib.hid (show Calls Try.prog 109 #[.agg #[.slice pv vs.length qv, .int .i64 bb]] wr (fun e w' => e = .returned (.tuple #[.agg #[.slice none 0 0, .int .i64 0], .bool false]) ∧ Below wr.heap.size wr w') from impl_kept_no pv vs qv bb wr HOw.reads (by rw [HN.out]; omega) HKK)
      have HOW := Lib.hid HOw
      have HBE := Lib.hid (HBD.out.trans (hbel.mono (by omega)))
      clear HOw HQc hbel HKK
      go_wp2_with fail
      refine HKP.out.mono ?_
      rintro e w5 ⟨rfl, hb⟩
      replace x1_0 := cell_below hb x1_0 (by omega)
      replace x1_1 := cell_below hb x1_1 (by omega)
      replace f1_0 := fro_below hb f1_0 (by omega)
      replace f1_1 := fro_below hb f1_1 (by omega)
      have HB5 := Lib.hid (HBE.out.trans (hb.mono (by omega)))
      have HO5 := Lib.hid (HOW.out.below hb)
      have hs5 := hb.size
      clear hb
      go_wp2_with fail
      refine bodyPost_ret (v := .tuple #[.agg #[.slice none 0 0, .int .i64 0], .bool false]) (by simp [results, Try.results60, go_sem, x1_0, x1_1]) rfl ⟨_, rfl, OwnI.nil _ _ _, ?_⟩
      exact (HB5.out.setCell (by simp) _).setCell (by simp) _
set_option maxRecDepth 100000 in
set_option maxHeartbeats 4000000 in
theorem impl_full (a : Option Addr) (rows : List (List Int)) (c : Nat) (a' : Option Addr) (zs : List Int) (c' : Nat) (p : Option Addr) (cs : List Int) (q : Nat) (w : World) (hr : grid.Reads w a rows) (hz : ints.Reads .i64 w a' zs) (hq : ints.Reads .i64 w p cs) (hn : rows.length ≤ 1048576) (hk : zs.length ≤ 1048576) (hm : ∀ r ∈ rows, r.length ≤ 1048576) (hw : cs.length ≤ 1048576) (hp : Hid (margin.hpB rows zs = true)) (hl : cs.length = rows.length) (h : Hid (numsR 0 999 cs = true)) (HK : Hid (planeB (pcW rows zs cs) (cb zs cs rows.length) = true)) :
    Calls Try.prog 60 #[.agg #[.slice a rows.length c, .slice a' zs.length c'], .slice p cs.length q] w (RetPB (pcW rows zs cs) (cb zs cs rows.length) true w) := by
  have HMM := Lib.hid hm
  clear hm
  obtain ⟨hcf, hd, s16, hzl, hpos⟩ := cf_of (cs := cs) hp.out
  have HCF := Lib.hid hcf
  have HD4 := Lib.hid hd
  have HLn := Lib.hid hzl
  have HLC := Lib.hid hl
  have HNR := h
  have g1 : ((cs.length : Int) != (rows.length : Int)) = false := by rw [bne_eq_false_iff_eq]; omega
  clear hcf hd hzl hl
  have Hhr := Lib.hid hr
  have Hhz := Lib.hid hz
  have Hhq := Lib.hid hq
  clear hr hz hq
  go_enter Try.func60, Try.ntmps60
  go_wp2_with fail
  have x0_0 : (w.alloc (.cells #[.slice a rows.length c, .slice a' zs.length c'] 27)).cell? ⟨w.heap.size, 0, none⟩ = some (.slice a rows.length c) := cell_new _ _ _ (by simp) rfl
  have x0_1 : (w.alloc (.cells #[.slice a rows.length c, .slice a' zs.length c'] 27)).cell? ⟨w.heap.size, 1, none⟩ = some (.slice a' zs.length c') := cell_new _ _ _ (by simp) rfl
  have HB0 := Lib.hid (below_alloc w (.cells #[.slice a rows.length c, .slice a' zs.length c'] 27))
  replace x0_0 := cell_old (.cells #[.slice none 0 0, .int .i64 0] 46) x0_0
  replace x0_1 := cell_old (.cells #[.slice none 0 0, .int .i64 0] 46) x0_1
  have x1_0 : ((w.alloc (.cells #[.slice a rows.length c, .slice a' zs.length c'] 27)).alloc (.cells #[.slice none 0 0, .int .i64 0] 46)).cell? ⟨w.heap.size + 1, 0, none⟩ = some (.slice none 0 0) := cell_new _ _ _ (by simp) rfl
  have x1_1 : ((w.alloc (.cells #[.slice a rows.length c, .slice a' zs.length c'] 27)).alloc (.cells #[.slice none 0 0, .int .i64 0] 46)).cell? ⟨w.heap.size + 1, 1, none⟩ = some (.int .i64 0) := cell_new _ _ _ (by simp) rfl
  have f1_0 : ((w.alloc (.cells #[.slice a rows.length c, .slice a' zs.length c'] 27)).alloc (.cells #[.slice none 0 0, .int .i64 0] 46)).frozen? ⟨w.heap.size + 1, 0, none⟩ = false := fro_new _ _ _ (by simp)
  have f1_1 : ((w.alloc (.cells #[.slice a rows.length c, .slice a' zs.length c'] 27)).alloc (.cells #[.slice none 0 0, .int .i64 0] 46)).frozen? ⟨w.heap.size + 1, 1, none⟩ = false := fro_new _ _ _ (by simp)
  replace HB0 := Lib.hid (HB0.out.alloc (by simp) (.cells #[.slice none 0 0, .int .i64 0] 46))
  have s0 : w.heap.size + 2 ≤ ((w.alloc (.cells #[.slice a rows.length c, .slice a' zs.length c'] 27)).alloc (.cells #[.slice none 0 0, .int .i64 0] 46)).heap.size := by simp
  generalize hw : ((w.alloc (.cells #[.slice a rows.length c, .slice a' zs.length c'] 27)).alloc (.cells #[.slice none 0 0, .int .i64 0] 46)) = w0 at *
  clear hw
  have n0_0 : w.heap.size < w0.heap.size := by omega
  have n0_1 : w.heap.size + 1 < w0.heap.size := by omega
  refine (margin.impl_hasPoints a rows c a' zs c' _ (Hhr.out.below HB0.out) (Hhz.out.below HB0.out) hn hk HMM.out true hp).mono ?_
  rintro e w1 ⟨rfl, hb⟩
  have s1 : w0.heap.size ≤ w1.heap.size := hb.size
  have n1_0 : w.heap.size < w1.heap.size := by omega
  have n1_1 : w.heap.size + 1 < w1.heap.size := by omega
  replace x0_0 := cell_below hb x0_0 (by omega)
  replace x0_1 := cell_below hb x0_1 (by omega)
  replace x1_0 := cell_below hb x1_0 (by omega)
  replace x1_1 := cell_below hb x1_1 (by omega)
  replace f1_0 := fro_below hb f1_0 (by omega)
  replace f1_1 := fro_below hb f1_1 (by omega)
  have HB1 := Lib.hid (HB0.out.trans (hb.mono (by omega)))
  clear hb
  go_wp2_with fail
  refine (impl_range p cs q 999 _ (Hhq.out.below HB1.out) hw true h).mono ?_
  rintro e w2 ⟨rfl, hb⟩
  have s2 : w1.heap.size ≤ w2.heap.size := hb.size
  have n2_0 : w.heap.size < w2.heap.size := by omega
  have n2_1 : w.heap.size + 1 < w2.heap.size := by omega
  replace x0_0 := cell_below hb x0_0 (by omega)
  replace x0_1 := cell_below hb x0_1 (by omega)
  replace x1_0 := cell_below hb x1_0 (by omega)
  replace x1_1 := cell_below hb x1_1 (by omega)
  replace f1_0 := fro_below hb f1_0 (by omega)
  replace f1_1 := fro_below hb f1_1 (by omega)
  have HB2 := Lib.hid (HB1.out.trans (hb.mono (by omega)))
  clear hb
  obtain ⟨bl, off, rp0, rq0, hab, hbl, hc0, _, _⟩ := (Hhr.out.below HB2.out).at (k := 0) hpos
  subst hab
  rw [Nat.add_zero] at hc0
  have HC0 := Lib.hid hc0
  have HFP := Lib.hid (impl_first bl off rows.length c (.slice a' zs.length c') (rows.getD 0 []) rp0 rq0 w2 hpos hbl hc0 HD4.out a' zs.length c' rfl)
  clear hc0
  generalize hr0 : rows.getD 0 [] = r0 at *
  go_wp2_with fail
  refine (HFP.out).mono ?_
  rintro e w3 ⟨pv0, rfl, ho, hb⟩
  obtain ⟨p0, q0, rfl, _, _, _⟩ := ho.slice
  rw [List.length_replicate] at ho
  have HO := Lib.hid ho
  clear ho
  have s3 : w2.heap.size ≤ w3.heap.size := hb.size
  have n3_0 : w.heap.size < w3.heap.size := by omega
  have n3_1 : w.heap.size + 1 < w3.heap.size := by omega
  replace x0_0 := cell_below hb x0_0 (by omega)
  replace x0_1 := cell_below hb x0_1 (by omega)
  replace x1_0 := cell_below hb x1_0 (by omega)
  replace x1_1 := cell_below hb x1_1 (by omega)
  replace f1_0 := fro_below hb f1_0 (by omega)
  replace f1_1 := fro_below hb f1_1 (by omega)
  have HB3 := Lib.hid (HB2.out.trans (hb.mono (by omega)))
  clear hb
  go_wp2_with fail
  have HX := Lib.hid (show w3.cell? ⟨w.heap.size, 0, none⟩ = some (.slice (some ⟨bl, off, none⟩) rows.length c) ∧ w3.cell? ⟨w.heap.size, 1, none⟩ = some (.slice a' zs.length c') ∧ w3.cell? ⟨w.heap.size + 1, 0, none⟩ = some (.slice none 0 0) ∧ w3.cell? ⟨w.heap.size + 1, 1, none⟩ = some (.int .i64 0) ∧ w3.frozen? ⟨w.heap.size + 1, 0, none⟩ = false ∧ w3.frozen? ⟨w.heap.size + 1, 1, none⟩ = false from ⟨x0_0, x0_1, x1_0, x1_1, f1_0, f1_1⟩)
  obtain ⟨B, hB⟩ : ∃ B, B = w3.heap.size := ⟨_, rfl⟩
  have HBo := Lib.hid (show B < (w3.alloc (.cells #[.slice p0 r0.length q0, .int .i64 0] 46)).heap.size from by rw [hB]; simp)
  have HQ0 := Lib.hid (show (w3.alloc (.cells #[.slice p0 r0.length q0, .int .i64 0] 46)).cell? ⟨B, 0, none⟩ = some (.slice p0 r0.length q0) ∧ (w3.alloc (.cells #[.slice p0 r0.length q0, .int .i64 0] 46)).cell? ⟨B, 1, none⟩ = some (.int .i64 (0)) ∧ (w3.alloc (.cells #[.slice p0 r0.length q0, .int .i64 0] 46)).frozen? ⟨B, 0, none⟩ = false ∧ (w3.alloc (.cells #[.slice p0 r0.length q0, .int .i64 0] 46)).frozen? ⟨B, 1, none⟩ = false from ⟨cell_new _ _ _ hB rfl, cell_new _ _ _ hB rfl, fro_new _ _ _ hB, fro_new _ _ _ hB⟩)
  have x0_0 := cell_old (.cells #[.slice p0 r0.length q0, .int .i64 0] 46) x0_0
  have HOw := Lib.hid ((HO.out.below (below_alloc w3 (.cells #[.slice p0 r0.length q0, .int .i64 0] 46))).mono (Nat.le_refl _) (show w3.heap.size ≤ (w3.alloc (.cells #[.slice p0 r0.length q0, .int .i64 0] 46)).heap.size by simp))
  have HBl0 := Lib.hid (below_alloc w3 (.cells #[.slice p0 r0.length q0, .int .i64 0] 46))
  have HBD := HB3
  have HsD := Lib.hid (show w2.heap.size ≤ w3.heap.size from s3)
  rw [← hB]
  generalize (w3.alloc (.cells #[.slice p0 r0.length q0, .int .i64 0] 46)) = w9 at *
  have HST := Lib.hid (show ∃ (pv : Option Addr) (qv : Nat), (w9.cell? ⟨B, 0, none⟩ = some ((.slice pv (cw rows zs cs r0.length 0).length qv)) ∧ w9.cell? ⟨B, 1, none⟩ = some (.int .i64 (cb zs cs 0)) ∧ w9.frozen? ⟨B, 0, none⟩ = false ∧ w9.frozen? ⟨B, 1, none⟩ = false) ∧ OwnI w2.heap.size w9.heap.size w9 (.slice pv (cw rows zs cs r0.length 0).length qv) (cw rows zs cs r0.length 0) from by
    have e : (cw rows zs cs r0.length 0).length = r0.length := cw_length rows zs cs r0.length 0
    rw [e]
    exact ⟨p0, q0, HQ0.out, HOw.out⟩)
  clear HQ0 HOw HO x0_1 x1_0 x1_1 f1_0 f1_1
  have hsB : w.heap.size + 1 < B := by omega
  have hCB : w2.heap.size ≤ B := by omega
  have hDB : w3.heap.size ≤ B := by omega
  have HBe := Lib.hid hB
  clear hB
  go_wp2_with fail
  go_loopw [31] (fun i wr => ∃ k : Nat, k ≤ rows.length ∧ i = .int .i64 k ∧ Hid (∃ (pv : Option Addr) (qv : Nat), (wr.cell? ⟨B, 0, none⟩ = some ((.slice pv (cw rows zs cs r0.length k).length qv)) ∧ wr.cell? ⟨B, 1, none⟩ = some (.int .i64 (cb zs cs k)) ∧ wr.frozen? ⟨B, 0, none⟩ = false ∧ wr.frozen? ⟨B, 1, none⟩ = false) ∧ OwnI w2.heap.size wr.heap.size wr (.slice pv (cw rows zs cs r0.length k).length qv) (cw rows zs cs r0.length k)) ∧ Hid (Below B w3 wr) ∧ Hid (B < wr.heap.size)) (fun i _ => rows.length - (intOf i).toNat)
  case atStart => exact ⟨0, Nat.zero_le _, rfl, HST, Lib.hid (by rw [HBe.out]; exact HBl0.out), HBo⟩
  case round =>
    obtain ⟨k, hk', rfl, HS, HBl, HBr⟩ := hrel
    clear HST x0_0
    obtain ⟨pv, qv, HQc, HOw⟩ := HS.out
    clear HS
    have hbel := HBl.out
    have hsz := HBr.out
    by_cases hlt : k < rows.length
    · obtain ⟨qb, qo, hqb, hql, hqc⟩ := (Hhq.out.below HBD.out).at (k := k) (by have := HLC.out; omega)
      subst hqb
      obtain ⟨bl', off', rp, rq, hab, hbl', hc, hpq, hrow⟩ := (Hhr.out.below HBD.out).at hlt
      obtain ⟨rfl, rfl⟩ : bl = bl' ∧ off = off' := by cases hab; exact ⟨rfl, rfl⟩
      obtain ⟨lb, lo, hlb, hll, hlc⟩ := (Hhz.out.below HBD.out).at (k := k) (by have := HLn.out; omega)
      subst hlb
      have hin := numsR_at HNR.out k (by have := HLC.out; omega)
      have HFt := Lib.hid (cw_fit HCF.out HD4.out s16 k hlt (fun j hj => numsR_at HNR.out j (by have := HLC.out; omega)))
      have HCW := Lib.hid (show added (cw rows zs cs r0.length k) (rows.getD k []) (zs.getD k 0 * cs.getD k 0) = cw rows zs cs r0.length (k + 1) from rfl)
      have HCB := Lib.hid (show cb zs cs k - zs.getD k 0 * cs.getD k 0 = cb zs cs (k + 1) from rfl)
      have HN := Lib.hid (cw_length rows zs cs r0.length k)
      have xl := cell_below hbel HX.out.2.1 (by omega)
      replace hqc := cell_below hbel hqc (by omega)
      replace hlc := cell_below hbel hlc (by omega)
      replace hc := cell_below hbel hc (by omega)
      have HR0 := Lib.hid hrow
      have i1 : (0 : Int) ≤ (k : Int) := by omega
      have i2 : (k : Int) < (rows.length : Int) := by omega
      have i3 : (k : Int) < (zs.length : Int) := by have := HLn.out; omega
      have i4 : (k : Int) < (cs.length : Int) := by have := HLC.out; omega
      clear hrow hpq hab
      generalize rows.getD k [] = r at *
      generalize cw rows zs cs r0.length k = vs at *
      generalize cb zs cs k = bb at *
      generalize cs.getD k 0 = cc at *
      generalize zs.getD k 0 = zz at *
      obtain ⟨tt, htt⟩ : ∃ tt, tt = zz * cc := ⟨_, rfl⟩
      rw [← htt] at HFt HCW HCB
      have e2 : IntKind.i64.wrap (zz * cc) = tt := by have := HFt.out.tbd; rw [← htt]; exact IntWalk.i64_in _ (by omega)
      clear htt
      have HBX := Lib.hid hbel
      have HOW := Lib.hid HOw
      have HQQ := Lib.hid HQc
      have y0 := HQc.1
      have y1 := HQc.2.1
      have hzr := hsz
      clear HOw HQc
      have HRD := Lib.hid (show ∀ wa : World, Below B w3 wa → ints.Reads .i64 wa rp r from fun wa h => HR0.out.below (h.mono (by omega)))
      have HT0 := Lib.hid (show ∀ wa : World, (wa.cell? ⟨w.heap.size, 1, none⟩ = some (.slice (some ⟨lb, lo, none⟩) zs.length c') ∧ wa.cell? ⟨lb, lo + k, none⟩ = some (.int .i64 zz) ∧ wa.cell? ⟨qb, qo + k, none⟩ = some (.int .i64 cc) ∧ wr.heap.size ≤ wa.heap.size ∧ Below B w3 wa) → (wa.cell? ⟨B, 0, none⟩ = some (.slice pv vs.length qv) ∧ wa.cell? ⟨B, 1, none⟩ = some (.int .i64 (bb)) ∧ wa.frozen? ⟨B, 0, none⟩ = false ∧ wa.frozen? ⟨B, 1, none⟩ = false) → OwnI w2.heap.size wr.heap.size wa (.slice pv vs.length qv) vs → Calls Try.prog 110 #[.agg #[.slice pv vs.length qv, .int .i64 bb], .slice rp r.length rq, .int .i64 tt] wa (fun e w' => ∃ (p1 : Option Addr) (q1 : Nat), e = .returned (.agg #[.slice p1 (added vs r tt).length q1, .int .i64 (bb - tt)]) ∧ OwnI wr.heap.size w'.heap.size w' (.slice p1 (added vs r tt).length q1) (added vs r tt) ∧ (w'.cell? ⟨B, 0, none⟩ = some (.slice pv vs.length qv) ∧ w'.cell? ⟨B, 1, none⟩ = some (.int .i64 (bb)) ∧ w'.frozen? ⟨B, 0, none⟩ = false ∧ w'.frozen? ⟨B, 1, none⟩ = false) ∧ w'.cell? ⟨w.heap.size, 1, none⟩ = some (.slice (some ⟨lb, lo, none⟩) zs.length c') ∧ w'.cell? ⟨lb, lo + k, none⟩ = some (.int .i64 zz) ∧ w'.cell? ⟨qb, qo + k, none⟩ = some (.int .i64 cc) ∧ wr.heap.size ≤ w'.heap.size ∧ Below B w3 w') from fun wa hS hQ hO => by
        have hwz := hS.2.2.2.1
        have hB' := hS.2.2.2.2
        have hRW : ints.Reads .i64 wa rp r := HRD.out wa hB'
        refine (impl_added pv vs qv bb rp r rq tt wa hO.reads hRW HFt.out).mono ?_
        rintro e w' ⟨v', rfl, ho, hb⟩
        obtain ⟨p1, q1, rfl, _, _, _⟩ := ho.slice
        exact ⟨p1, q1, rfl, ho.mono hwz (Nat.le_refl _), ⟨cell_below hb hQ.1 (by omega), cell_below hb hQ.2.1 (by omega), fro_below hb hQ.2.2.1 (by omega), fro_below hb hQ.2.2.2 (by omega)⟩, cell_below hb hS.1 (by omega), cell_below hb hS.2.1 (by omega), cell_below hb hS.2.2.1 (by omega), Nat.le_trans hwz hb.size, hB'.trans (hb.mono (by omega))⟩)
      go_wp2_with fail
      refine wp_region_noPanic ?_
      refine wp_region_held_drew (S := fun w' => w'.cell? ⟨w.heap.size, 1, none⟩ = some (.slice (some ⟨lb, lo, none⟩) zs.length c') ∧ w'.cell? ⟨lb, lo + k, none⟩ = some (.int .i64 zz) ∧ w'.cell? ⟨qb, qo + k, none⟩ = some (.int .i64 cc) ∧ wr.heap.size ≤ w'.heap.size ∧ Below B w3 w') (by kernel_rfl) ?_ (fun hHeld => ?_)
      · exact ⟨xl, hlc, hqc, Nat.le_refl _, HBX.out.drew⟩
      refine wpAnyH_take (i := 1) (v := ?_) rfl (by kernel_rfl) (by kernel_rfl) (by kernel_rfl) (fun _ _ _ h => h) (Or.inl ⟨by rfl, ?_⟩) (by assumption) ?_
      rotate_left
      · intro w9 hSw; (try dsimp only at hSw); go_simp; try with_reducible rfl
      try simp only [List.getElem_toArray, List.getElem_cons_succ, List.getElem_cons_zero, Act.put, List.setIfInBounds_toArray, List.set_cons_zero, List.set_cons_succ]
      refine wpAnyH_take (i := 2) (v := ?_) rfl (by kernel_rfl) (by kernel_rfl) (by kernel_rfl) (fun _ _ _ h => h) (Or.inl ⟨by rfl, ?_⟩) (by assumption) ?_
      rotate_left
      · intro w9 hSw; (try dsimp only at hSw); go_simp; try with_reducible rfl
      try simp only [List.getElem_toArray, List.getElem_cons_succ, List.getElem_cons_zero, Act.put, List.setIfInBounds_toArray, List.set_cons_zero, List.set_cons_succ]
      refine wpAnyH_take (i := 3) (v := ?_) rfl (by kernel_rfl) (by kernel_rfl) (by kernel_rfl) (fun _ _ _ h => h) (Or.inl ⟨by rfl, ?_⟩) (by assumption) ?_
      rotate_left
      · intro w9 hSw; (try dsimp only at hSw); go_simp; try with_reducible rfl
      try simp only [List.getElem_toArray, List.getElem_cons_succ, List.getElem_cons_zero, Act.put, List.setIfInBounds_toArray, List.set_cons_zero, List.set_cons_succ]
      refine wpAnyH_take (i := 4) (v := ?_) rfl (by kernel_rfl) (by kernel_rfl) (by kernel_rfl) (fun _ _ _ h => h) (Or.inl ⟨by rfl, ?_⟩) (by assumption) ?_
      rotate_left
      · intro w9 hSw; (try dsimp only at hSw); go_simp; try with_reducible rfl
      try simp only [List.getElem_toArray, List.getElem_cons_succ, List.getElem_cons_zero, Act.put, List.setIfInBounds_toArray, List.set_cons_zero, List.set_cons_succ]
      refine wpAnyH_take (i := 5) (v := ?_) rfl (by kernel_rfl) (by kernel_rfl) (by kernel_rfl) (fun _ _ _ h => h) (Or.inl ⟨by rfl, ?_⟩) (by assumption) ?_
      rotate_left
      · intro w9 hSw; (try dsimp only at hSw); go_simp; try with_reducible rfl
      try simp only [List.getElem_toArray, List.getElem_cons_succ, List.getElem_cons_zero, Act.put, List.setIfInBounds_toArray, List.set_cons_zero, List.set_cons_succ]
      refine wpAnyH_take (i := 6) (v := ?_) rfl (by kernel_rfl) (by kernel_rfl) (by kernel_rfl) (fun _ _ _ h => h) (Or.inl ⟨by rfl, ?_⟩) (by assumption) ?_
      rotate_left
      · intro w9 hSw; (try dsimp only at hSw); go_simp; try with_reducible rfl
      try simp only [List.getElem_toArray, List.getElem_cons_succ, List.getElem_cons_zero, Act.put, List.setIfInBounds_toArray, List.set_cons_zero, List.set_cons_succ]
      refine wpAnyH_take (i := 7) (v := ?_) rfl (by kernel_rfl) (by kernel_rfl) (by kernel_rfl) (fun _ _ _ h => h) (Or.inl ⟨by rfl, ?_⟩) (by assumption) ?_
      rotate_left
      · intro w9 hSw; (try dsimp only at hSw); go_simp; try with_reducible rfl
      try simp only [List.getElem_toArray, List.getElem_cons_succ, List.getElem_cons_zero, Act.put, List.setIfInBounds_toArray, List.set_cons_zero, List.set_cons_succ]
      refine wpAnyH_take (i := 8) (v := ?_) rfl (by kernel_rfl) (by kernel_rfl) (by kernel_rfl) (fun _ _ _ h => h) (Or.inl ⟨by rfl, ?_⟩) (by assumption) ?_
      rotate_left
      · intro w9 hSw; (try dsimp only at hSw); go_simp; try with_reducible rfl
      try simp only [List.getElem_toArray, List.getElem_cons_succ, List.getElem_cons_zero, Act.put, List.setIfInBounds_toArray, List.set_cons_zero, List.set_cons_succ]
      refine wpAnyH_take (i := 9) (v := ?_) rfl (by kernel_rfl) (by kernel_rfl) (by kernel_rfl) (fun _ _ _ h => h) (Or.inl ⟨by rfl, ?_⟩) (by assumption) ?_
      rotate_left
      · intro w9 hSw; (try dsimp only at hSw); go_simp; try with_reducible rfl
      try simp only [List.getElem_toArray, List.getElem_cons_succ, List.getElem_cons_zero, Act.put, List.setIfInBounds_toArray, List.set_cons_zero, List.set_cons_succ]
      refine wpAnyH_take (i := 10) (v := ?_) rfl (by kernel_rfl) (by kernel_rfl) (by kernel_rfl) (fun _ _ _ h => h) (Or.inl ⟨by rfl, ?_⟩) (by assumption) ?_
      rotate_left
      · intro w9 hSw; (try dsimp only at hSw); go_simp; try with_reducible rfl
      try simp only [List.getElem_toArray, List.getElem_cons_succ, List.getElem_cons_zero, Act.put, List.setIfInBounds_toArray, List.set_cons_zero, List.set_cons_succ]
      refine wpAnyH_take (i := 11) (v := ?_) rfl (by kernel_rfl) (by kernel_rfl) (by kernel_rfl) (fun _ _ _ h => h) (Or.inl ⟨by rfl, ?_⟩) (by assumption) ?_
      rotate_left
      · intro w9 hSw; (try dsimp only at hSw); go_simp; try with_reducible rfl
      try simp only [List.getElem_toArray, List.getElem_cons_succ, List.getElem_cons_zero, Act.put, List.setIfInBounds_toArray, List.set_cons_zero, List.set_cons_succ]
      refine wpAnyH_ready (rs := [0]) (by kernel_rfl) (by simp) ?_
      refine AllReadyH.cons rfl (fun K hK => ?_) ?_
      · go_simp
        refine hK.out _ _ ?_ (fun hHeld => ?_)
        · exact hHeld
        clear hK K
        try simp only [List.getElem_toArray, List.getElem_cons_succ, List.getElem_cons_zero, Act.put, List.setIfInBounds_toArray, List.set_cons_zero, List.set_cons_succ]
        refine wpAnyH_ready (rs := [12]) (by kernel_rfl) (by simp) ?_
        refine AllReadyH.cons rfl (fun K hK => ?_) ?_
        · go_simp
          refine Calls.mono (HT0.out _ ?_ ?_ ?_) ?_
          · exact hHeld
          · first | exact HQQ.out | exact ⟨HQQ.out.1, HQQ.out.2.1, HQQ.out.2.2.1, HQQ.out.2.2.2⟩
          · first | exact HOW.out | exact HOW.out.below (Below.refl _ _).drew
          rintro e va ⟨p1, q1, rfl, ho0, ⟨q0_0, q0_1, q0_2, q0_3⟩, hbx⟩
          have hx1 := Lib.hid hbx
          have ho1 := Lib.hid ho0
          clear ho0
          refine hK.out _ _ ?_ (fun hHeld => ?_)
          · exact hbx
          clear hK K
          try simp only [List.getElem_toArray, List.getElem_cons_succ, List.getElem_cons_zero, Act.put, List.setIfInBounds_toArray, List.set_cons_zero, List.set_cons_succ]
          refine wpAnyH_ready (rs := [13]) (by kernel_rfl) (by simp) ?_
          refine AllReadyH.cons rfl (fun K hK => ?_) ?_
          · go_simp
            refine hK.out _ _ ?_ (fun hHeld => ?_)
            · exact ⟨cell_set (cell_set hbx.1 (by simp; omega) _) (by simp; omega) _, cell_set (cell_set hbx.2.1 (by simp; omega) _) (by simp; omega) _, cell_set (cell_set hbx.2.2.1 (by simp; omega) _) (by simp; omega) _, by rw [size_set, size_set]; exact hbx.2.2.2.1, (hbx.2.2.2.2.setCell (by simp) _).setCell (by simp) _⟩
            clear hK K
            try simp only [List.getElem_toArray, List.getElem_cons_succ, List.getElem_cons_zero, Act.put, List.setIfInBounds_toArray, List.set_cons_zero, List.set_cons_succ]
            refine wpAnyH_done (by kernel_rfl) ?_ _
            refine NoPanic.normal ?_
            have HN2 := Lib.hid (show (((va.setCell ⟨B, 0, none⟩ (.slice p1 (added vs r tt).length q1)).setCell ⟨B, 1, none⟩ (.int .i64 (bb - tt))).cell? ⟨B, 0, none⟩ = some (.slice p1 (added vs r tt).length q1) ∧ ((va.setCell ⟨B, 0, none⟩ (.slice p1 (added vs r tt).length q1)).setCell ⟨B, 1, none⟩ (.int .i64 (bb - tt))).cell? ⟨B, 1, none⟩ = some (.int .i64 (bb - tt)) ∧ ((va.setCell ⟨B, 0, none⟩ (.slice p1 (added vs r tt).length q1)).setCell ⟨B, 1, none⟩ (.int .i64 (bb - tt))).frozen? ⟨B, 0, none⟩ = false ∧ ((va.setCell ⟨B, 0, none⟩ (.slice p1 (added vs r tt).length q1)).setCell ⟨B, 1, none⟩ (.int .i64 (bb - tt))).frozen? ⟨B, 1, none⟩ = false) ∧ OwnI w2.heap.size ((va.setCell ⟨B, 0, none⟩ (.slice p1 (added vs r tt).length q1)).setCell ⟨B, 1, none⟩ (.int .i64 (bb - tt))).heap.size ((va.setCell ⟨B, 0, none⟩ (.slice p1 (added vs r tt).length q1)).setCell ⟨B, 1, none⟩ (.int .i64 (bb - tt))) (.slice p1 (added vs r tt).length q1) (added vs r tt) from ⟨⟨(World.cell?_setCell_other _ _ _ _ (by simp)).trans (World.cell?_setCell_same _ _ _ q0_0), World.cell?_setCell_same _ _ _ (cell_setI q0_1), by simp only [World.frozen?_setCell]; exact q0_2, by simp only [World.frozen?_setCell]; exact q0_3⟩, by simp only [size_set]; exact ((ho1.out.set (by simp; omega) _).set (by simp; omega) _).mono (by omega) (Nat.le_refl _)⟩)
            have HB7 := Lib.hid hHeld.2.2.2.2
            have hs7 := hHeld.2.2.2.1
            clear q0_0 q0_1 q0_2 q0_3
            go_wp2_with fail
            go_roundw
            case rel => exact ⟨k + 1, by omega, by go_num, Lib.hid (by rw [← HCW.out, ← HCB.out]; exact ⟨p1, q1, HN2.out.1, HN2.out.2⟩), HB7, Lib.hid (by omega)⟩
            case measure => simp [intOf]; omega
          exact AllReadyH.nil
        exact AllReadyH.nil
      exact AllReadyH.nil
    · obtain rfl : k = rows.length := by omega
      have HN := Lib.hid (cw_length rows zs cs r0.length rows.length)
      have x1_0 := cell_below hbel HX.out.2.2.1 (by omega)
      have x1_1 := cell_below hbel HX.out.2.2.2.1 (by omega)
      have f1_0 := fro_below hbel HX.out.2.2.2.2.1 (by omega)
      have f1_1 := fro_below hbel HX.out.2.2.2.2.2 (by omega)
      have y0 := HQc.1
      have y1 := HQc.2.1
      have HKK := HK
      unfold pcW at HKK
      rw [hr0] at HKK
      have HV := Lib.hid (show pcW rows zs cs = cw rows zs cs r0.length rows.length from by unfold pcW; rw [hr0])
      have hd4 := HD4.out
      generalize cw rows zs cs r0.length rows.length = vs at *
      generalize cb zs cs rows.length = bb at *
      have HKP := Lib.hid (show Calls Try.prog 109 #[.agg #[.slice pv vs.length qv, .int .i64 bb]] wr (fun e w' => e = .returned (.tuple #[.agg #[.slice pv vs.length qv, .int .i64 bb], .bool true]) ∧ Below wr.heap.size wr w') from impl_kept_yes pv vs qv bb wr HOw.reads (by rw [HN.out]; omega) HKK)
      have HOW := Lib.hid HOw
      have HBE := Lib.hid (HBD.out.trans (hbel.mono (by omega)))
      clear HOw HQc hbel HKK
      go_wp2_with fail
      refine HKP.out.mono ?_
      rintro e w5 ⟨rfl, hb⟩
      replace x1_0 := cell_below hb x1_0 (by omega)
      replace x1_1 := cell_below hb x1_1 (by omega)
      replace f1_0 := fro_below hb f1_0 (by omega)
      replace f1_1 := fro_below hb f1_1 (by omega)
      have HB5 := Lib.hid (HBE.out.trans (hb.mono (by omega)))
      have HO5 := Lib.hid (HOW.out.below hb)
      have hs5 := hb.size
      clear hb
      go_wp2_with fail
      refine bodyPost_ret (v := .tuple #[.agg #[.slice pv vs.length qv, .int .i64 bb], .bool true]) (by simp [results, Try.results60, go_sem, x1_0, x1_1]) rfl ⟨_, rfl, ?_, ?_⟩
      · simp only [size_set]
        rw [HV.out]
        exact ((HO5.out.set (a := ⟨w.heap.size + 1, 0, none⟩) (by simp; omega) _).set (a := ⟨w.heap.size + 1, 1, none⟩) (by simp; omega) _).mono (by omega) hs5
      · exact (HB5.out.setCell (by simp) _).setCell (by simp) _
theorem impl_no (a : Option Addr) (rows : List (List Int)) (c : Nat) (a' : Option Addr) (zs : List Int) (c' : Nat) (p : Option Addr) (cs : List Int) (q : Nat) (w : World) (hr : grid.Reads w a rows) (hz : ints.Reads .i64 w a' zs) (hq : ints.Reads .i64 w p cs) (hn : rows.length ≤ 1048576) (hk : zs.length ≤ 1048576) (hm : ∀ r ∈ rows, r.length ≤ 1048576) (hw : cs.length ≤ 1048576) (h : pcB rows zs cs = false) :
    Calls Try.prog 60 #[.agg #[.slice a rows.length c, .slice a' zs.length c'], .slice p cs.length q] w (RetPB [] 0 false w) := by
  cases h1 : margin.hpB rows zs
  · exact impl_no1 a rows c a' zs c' p cs q w hr hz hq hn hk hm hw (Lib.hid h1)
  · by_cases hl : cs.length = rows.length
    · cases h2 : numsR 0 999 cs
      · exact impl_no3 a rows c a' zs c' p cs q w hr hz hq hn hk hm hw (Lib.hid h1) hl (Lib.hid h2)
      · refine impl_out a rows c a' zs c' p cs q w hr hz hq hn hk hm hw (Lib.hid h1) hl (Lib.hid h2) (Lib.hid ?_)
        rw [pcB, cntB, h1, h2, decide_eq_true hl] at h
        simpa using h
    · exact impl_no2 a rows c a' zs c' p cs q w hr hz hq hn hk hm hw (Lib.hid h1) hl
theorem impl_yes (a : Option Addr) (rows : List (List Int)) (c : Nat) (a' : Option Addr) (zs : List Int) (c' : Nat) (p : Option Addr) (cs : List Int) (q : Nat) (w : World) (hr : grid.Reads w a rows) (hz : ints.Reads .i64 w a' zs) (hq : ints.Reads .i64 w p cs) (hn : rows.length ≤ 1048576) (hk : zs.length ≤ 1048576) (hm : ∀ r ∈ rows, r.length ≤ 1048576) (hw : cs.length ≤ 1048576) (h : pcB rows zs cs = true) :
    Calls Try.prog 60 #[.agg #[.slice a rows.length c, .slice a' zs.length c'], .slice p cs.length q] w (RetPB (pcW rows zs cs) (cb zs cs rows.length) true w) := by
  have h' : ((margin.hpB rows zs = true ∧ cs.length = rows.length) ∧ numsR 0 999 cs = true) ∧ planeB (pcW rows zs cs) (cb zs cs rows.length) = true := by simpa [pcB, cntB] using h
  exact impl_full a rows c a' zs c' p cs q w hr hz hq hn hk hm hw (Lib.hid h'.1.1.1) h'.1.1.2 (Lib.hid h'.1.2) (Lib.hid h'.2)
end Go.Proofs.Ytocbklmkphgkeaa.counts
