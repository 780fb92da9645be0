/- Several texts in one. -/
import Derived.RangeFuncLeaves
import Derived.TacticsInMore
import Derived.Deep.DrawnRows
import Derived.Deep.RegionHeld3
import Derived.Maps.AppendAt
import Derived.Test.YtoephhhofkmgjabSpG41
import Derived.Test.YtoephhhofkmgjabSpG33
namespace Go.Proofs.Ytoephhhofkmgjab.leastn
open Go.RowKit own pp nums tab told least5 wts parts leasti leasts has nums findp
set_option linter.unusedVariables false
set_option linter.unusedSimpArgs false

set_option maxRecDepth 100000 in
set_option maxHeartbeats 4000000 in
theorem spec_no1 (n : Int) (a : Option Addr) (zs : List Int) (c : Nat) (w : World) (hr : ints.Reads .i64 w a zs) (hk : tab.tabB n zs = false) :
    Calls Try.prog 53 #[.int .i64 n, .slice a zs.length c] w ((RetPB [] 0 false w)) := by
  have HT := Lib.hid (fun (W : World) (hb : Below w.heap.size w W) => tab.spec_tab n a zs c W (hr.below hb) false (Lib.hid hk))
  clear hr hk
  go_enter Try.func53, Try.ntmps53
  go_wp2_with fail
  have x0 : (w.alloc (.cells #[.slice none 0 0, .int .i64 0] 46)).cell? ⟨w.heap.size, 0, none⟩ = some (.slice none 0 0) := cell_new _ _ _ (by simp) rfl
  have x1 : (w.alloc (.cells #[.slice none 0 0, .int .i64 0] 46)).cell? ⟨w.heap.size, 1, none⟩ = some (.int .i64 0) := cell_new _ _ _ (by simp) rfl
  have xf0 : (w.alloc (.cells #[.slice none 0 0, .int .i64 0] 46)).frozen? ⟨w.heap.size, 0, none⟩ = false := fro_new _ _ _ rfl
  have xf1 : (w.alloc (.cells #[.slice none 0 0, .int .i64 0] 46)).frozen? ⟨w.heap.size, 1, none⟩ = false := fro_new _ _ _ rfl
  have hP0 : (w.alloc (.cells #[.slice none 0 0, .int .i64 0] 46)).heap[w.heap.size]? = some (.cells #[.slice none 0 0, .int .i64 0] 46) := World.alloc_heap_new w _
  have HB0 := Lib.hid (below_alloc w (.cells #[.slice none 0 0, .int .i64 0] 46))
  have hs0 : (w.alloc (.cells #[.slice none 0 0, .int .i64 0] 46)).heap.size = w.heap.size + 1 := by simp
  generalize hw : (w.alloc (.cells #[.slice none 0 0, .int .i64 0] 46)) = w0 at *
  clear hw
  refine (HT.out w0 HB0.out).mono ?_
  rintro e w' ⟨rfl, m, rfl⟩
  obtain ⟨w2, hw2⟩ : ∃ w2 : World, w2 = w0.drewN m := ⟨_, rfl⟩
  have hb2 : Below w0.heap.size w0 w2 := by rw [hw2]; exact ints.below_drewN (Below.refl _ _) m
  rw [← hw2]
  clear hw2
  have HPL := Lib.hid ((hb2.block _ (by omega)).trans hP0)
  have y0 := cell_below hb2 x0 (by omega)
  have y1 := cell_below hb2 x1 (by omega)
  have yf0 := fro_below hb2 xf0 (by omega)
  have yf1 := fro_below hb2 xf1 (by omega)
  have HBX := Lib.hid (HB0.out.trans (hb2.mono HB0.out.size))
  have hs2 := hb2.size
  clear x0 x1 xf0 xf1 hP0 hb2
  go_wp2_with fail
  have hp := set_plane (v' := .slice none 0 0) (b' := .int .i64 0) HPL.out
  have q0 : ((w2.setCell ⟨w.heap.size, 0, none⟩ (.slice none 0 0)).setCell ⟨w.heap.size, 1, none⟩ (.int .i64 0)).cell? ⟨w.heap.size, 0, none⟩ = some (.slice none 0 0) := by simp [World.cell?, hp]
  have q1 : ((w2.setCell ⟨w.heap.size, 0, none⟩ (.slice none 0 0)).setCell ⟨w.heap.size, 1, none⟩ (.int .i64 0)).cell? ⟨w.heap.size, 1, none⟩ = some (.int .i64 0) := by simp [World.cell?, hp]
  refine bodyPost_ret (v := .tuple #[.agg #[.slice none 0 0, .int .i64 0], .bool false]) (by simp [results, Try.results53, go_sem, q0, q1]) rfl ⟨.slice none 0 0, rfl, OwnI.nil _ _ _, (HBX.out.setCell (Nat.le_refl _) _).setCell (Nat.le_refl _) _⟩
set_option maxRecDepth 100000 in
set_option maxHeartbeats 4000000 in
theorem spec_no2 (a : Option Addr) (zs : List Int) (c : Nat) (w : World) (hr : ints.Reads .i64 w a zs) (hk : tab.tabB 0 zs = true) :
    Calls Try.prog 53 #[.int .i64 0, .slice a zs.length c] w ((RetPB [] 0 false w)) := by
  have HT := Lib.hid (fun (W : World) (hb : Below w.heap.size w W) => tab.spec_tab 0 a zs c W (hr.below hb) true (Lib.hid hk))
  clear hr hk
  go_enter Try.func53, Try.ntmps53
  go_wp2_with fail
  have x0 : (w.alloc (.cells #[.slice none 0 0, .int .i64 0] 46)).cell? ⟨w.heap.size, 0, none⟩ = some (.slice none 0 0) := cell_new _ _ _ (by simp) rfl
  have x1 : (w.alloc (.cells #[.slice none 0 0, .int .i64 0] 46)).cell? ⟨w.heap.size, 1, none⟩ = some (.int .i64 0) := cell_new _ _ _ (by simp) rfl
  have xf0 : (w.alloc (.cells #[.slice none 0 0, .int .i64 0] 46)).frozen? ⟨w.heap.size, 0, none⟩ = false := fro_new _ _ _ rfl
  have xf1 : (w.alloc (.cells #[.slice none 0 0, .int .i64 0] 46)).frozen? ⟨w.heap.size, 1, none⟩ = false := fro_new _ _ _ rfl
  have hP0 : (w.alloc (.cells #[.slice none 0 0, .int .i64 0] 46)).heap[w.heap.size]? = some (.cells #[.slice none 0 0, .int .i64 0] 46) := World.alloc_heap_new w _
  have HB0 := Lib.hid (below_alloc w (.cells #[.slice none 0 0, .int .i64 0] 46))
  have hs0 : (w.alloc (.cells #[.slice none 0 0, .int .i64 0] 46)).heap.size = w.heap.size + 1 := by simp
  generalize hw : (w.alloc (.cells #[.slice none 0 0, .int .i64 0] 46)) = w0 at *
  clear hw
  refine (HT.out w0 HB0.out).mono ?_
  rintro e w' ⟨rfl, m, rfl⟩
  obtain ⟨w2, hw2⟩ : ∃ w2 : World, w2 = w0.drewN m := ⟨_, rfl⟩
  have hb2 : Below w0.heap.size w0 w2 := by rw [hw2]; exact ints.below_drewN (Below.refl _ _) m
  rw [← hw2]
  clear hw2
  have HPL := Lib.hid ((hb2.block _ (by omega)).trans hP0)
  have y0 := cell_below hb2 x0 (by omega)
  have y1 := cell_below hb2 x1 (by omega)
  have yf0 := fro_below hb2 xf0 (by omega)
  have yf1 := fro_below hb2 xf1 (by omega)
  have HBX := Lib.hid (HB0.out.trans (hb2.mono HB0.out.size))
  have hs2 := hb2.size
  clear x0 x1 xf0 xf1 hP0 hb2
  go_wp2_with fail
  have hp := set_plane (v' := .slice none 0 0) (b' := .int .i64 0) HPL.out
  have q0 : ((w2.setCell ⟨w.heap.size, 0, none⟩ (.slice none 0 0)).setCell ⟨w.heap.size, 1, none⟩ (.int .i64 0)).cell? ⟨w.heap.size, 0, none⟩ = some (.slice none 0 0) := by simp [World.cell?, hp]
  have q1 : ((w2.setCell ⟨w.heap.size, 0, none⟩ (.slice none 0 0)).setCell ⟨w.heap.size, 1, none⟩ (.int .i64 0)).cell? ⟨w.heap.size, 1, none⟩ = some (.int .i64 0) := by simp [World.cell?, hp]
  refine bodyPost_ret (v := .tuple #[.agg #[.slice none 0 0, .int .i64 0], .bool false]) (by simp [results, Try.results53, go_sem, q0, q1]) rfl ⟨.slice none 0 0, rfl, OwnI.nil _ _ _, (HBX.out.setCell (Nat.le_refl _) _).setCell (Nat.le_refl _) _⟩
set_option maxRecDepth 100000 in
set_option maxHeartbeats 4000000 in
theorem spec_yes (n : Nat) (a : Option Addr) (zs : List Int) (c : Nat) (w : World) (hr : ints.Reads .i64 w a zs) (hk : tab.tabB n zs = true) (h1 : 1 ≤ n) :
    Calls Try.prog 53 #[.int .i64 n, .slice a zs.length c] w ((RetPB (bs n zs (wts n) (wts n).length).1 (bv n zs (wts n).length) (bs n zs (wts n) (wts n).length).2 w)) := by
  have HT := Lib.hid (fun (W : World) (hb : Below w.heap.size w W) => tab.spec_tab n a zs c W (hr.below hb) true (Lib.hid hk))
  have HS := Lib.hid (fun (W : World) (hb : Below w.heap.size w W) => spec_plane n a zs c W (hr.below hb) hk)
  have hn0 : ¬ ((n : Int) = 0) := by omega
  clear hr hk
  generalize bv n zs (wts n).length = bb at *
  generalize (bs n zs (wts n) (wts n).length).1 = bw at *
  generalize (bs n zs (wts n) (wts n).length).2 = ok at *
  go_enter Try.func53, Try.ntmps53
  go_wp2_with fail
  have x0 : (w.alloc (.cells #[.slice none 0 0, .int .i64 0] 46)).cell? ⟨w.heap.size, 0, none⟩ = some (.slice none 0 0) := cell_new _ _ _ (by simp) rfl
  have x1 : (w.alloc (.cells #[.slice none 0 0, .int .i64 0] 46)).cell? ⟨w.heap.size, 1, none⟩ = some (.int .i64 0) := cell_new _ _ _ (by simp) rfl
  have xf0 : (w.alloc (.cells #[.slice none 0 0, .int .i64 0] 46)).frozen? ⟨w.heap.size, 0, none⟩ = false := fro_new _ _ _ rfl
  have xf1 : (w.alloc (.cells #[.slice none 0 0, .int .i64 0] 46)).frozen? ⟨w.heap.size, 1, none⟩ = false := fro_new _ _ _ rfl
  have hP0 : (w.alloc (.cells #[.slice none 0 0, .int .i64 0] 46)).heap[w.heap.size]? = some (.cells #[.slice none 0 0, .int .i64 0] 46) := World.alloc_heap_new w _
  have HB0 := Lib.hid (below_alloc w (.cells #[.slice none 0 0, .int .i64 0] 46))
  have hs0 : (w.alloc (.cells #[.slice none 0 0, .int .i64 0] 46)).heap.size = w.heap.size + 1 := by simp
  generalize hw : (w.alloc (.cells #[.slice none 0 0, .int .i64 0] 46)) = w0 at *
  clear hw
  refine (HT.out w0 HB0.out).mono ?_
  rintro e w' ⟨rfl, m, rfl⟩
  obtain ⟨w2, hw2⟩ : ∃ w2 : World, w2 = w0.drewN m := ⟨_, rfl⟩
  have hb2 : Below w0.heap.size w0 w2 := by rw [hw2]; exact ints.below_drewN (Below.refl _ _) m
  rw [← hw2]
  clear hw2
  have HPL := Lib.hid ((hb2.block _ (by omega)).trans hP0)
  have y0 := cell_below hb2 x0 (by omega)
  have y1 := cell_below hb2 x1 (by omega)
  have yf0 := fro_below hb2 xf0 (by omega)
  have yf1 := fro_below hb2 xf1 (by omega)
  have HBX := Lib.hid (HB0.out.trans (hb2.mono HB0.out.size))
  have hs2 := hb2.size
  clear x0 x1 xf0 xf1 hP0 hb2
  go_wp2_with fail
  refine (HS.out w2 HBX.out).mono ?_
  rintro e w3 ⟨v, rfl, hov, hb3⟩
  obtain ⟨vp, vq, rfl, _, _, _⟩ := hov.slice
  have HOV := Lib.hid hov
  have HPL3 := Lib.hid ((hb3.block _ (by omega)).trans HPL.out)
  have z0 := cell_below hb3 y0 (by omega)
  have z1 := cell_below hb3 y1 (by omega)
  have zf0 := fro_below hb3 yf0 (by omega)
  have zf1 := fro_below hb3 yf1 (by omega)
  have HBX3 := Lib.hid (HBX.out.trans (hb3.mono HBX.out.size))
  clear hb3 y0 y1 yf0 yf1 HPL HBX hov
  have HPL := HPL3
  have HBX := HBX3
  go_wp2_with fail
  have hp := set_plane (v' := .slice vp bw.length vq) (b' := .int .i64 bb) HPL.out
  have q0 : ((w3.setCell ⟨w.heap.size, 0, none⟩ (.slice vp bw.length vq)).setCell ⟨w.heap.size, 1, none⟩ (.int .i64 bb)).cell? ⟨w.heap.size, 0, none⟩ = some (.slice vp bw.length vq) := by simp [World.cell?, hp]
  have q1 : ((w3.setCell ⟨w.heap.size, 0, none⟩ (.slice vp bw.length vq)).setCell ⟨w.heap.size, 1, none⟩ (.int .i64 bb)).cell? ⟨w.heap.size, 1, none⟩ = some (.int .i64 bb) := by simp [World.cell?, hp]
  refine bodyPost_ret (v := .tuple #[.agg #[.slice vp bw.length vq, .int .i64 bb], .bool ok]) (by simp [results, Try.results53, go_sem, q0, q1]) rfl ⟨.slice vp bw.length vq, rfl, (by
      refine (HOV.out.block (fun g hg => ?_)).mono (by omega) (by simp [World.setCell])
      have hg' := (HOV.out.lt hg).1
      exact (Below.heap_setCell _ _ _ _ (show g ≠ w.heap.size by omega)).trans (Below.heap_setCell _ _ _ _ (show g ≠ w.heap.size by omega))), (HBX.out.setCell (Nat.le_refl _) _).setCell (Nat.le_refl _) _⟩
open Go Go.RowKit Go.Shelf own in
set_option maxRecDepth 100000 in
set_option maxHeartbeats 4000000 in
theorem impl_no (n : Int) (a : Option Addr) (zs : List Int) (c : Nat) (w : World)
    (HT : Hid (∀ W, Below w.heap.size w W → Calls Try.prog 82 #[.int .i64 n, .slice a zs.length c] W (RetSB [] [] false W)))
    (HI : Hid (∀ W, Below w.heap.size w W → Calls Try.prog 41 #[.int .i64 n, .slice a zs.length c] W (fun e W' => ∃ b ok : Bool, e = .returned (.tuple #[.bool b, .bool ok]) ∧ Below W.heap.size W W'))) :
    Calls Try.prog 47 #[.int .i64 n, .slice a zs.length c] w (RetPB [] 0 false w) := by
  refine (callsIn_wide (n := 8)).1 ?_
  refine callsIn_of_wp_marks Try.func47 rfl trivial ?_ rfl
  simp only [Try.ntmps47, List.size_toArray, List.length_cons, List.length_nil, Nat.reduceAdd, Nat.reduceSub, Array.replicate_succ, Array.replicate_zero, List.push_toArray, List.append_toArray, List.nil_append, List.cons_append]
  gi_wp2
  refine ⟨trivial, ?_⟩
  refine (callsIn_wide.2 (HT.out _ (below_alloc w _))).mono ?_
  rintro e w1 ⟨p1, l1, rfl, hos, hb1⟩
  obtain ⟨pa, pc, rfl, _, _, _⟩ := hos.grid.slice
  obtain ⟨la, lc, rfl, _, _, _⟩ := hos.ints.slice
  have bR1 : w1.heap[w.heap.size]? = some (.cells #[.slice none 0 0, .int .i64 0] 46) := (hb1.block _ (by simp)).trans (World.alloc_heap_new w _)
  have HR1 := Lib.hid bR1
  have HB1 := Lib.hid ((below_alloc w (.cells #[.slice none 0 0, .int .i64 0] 46)).trans (hb1.mono (by simp)))
  have hs1 : w.heap.size + 1 ≤ w1.heap.size := by have := hb1.size; rwa [World.size_alloc] at this
  clear hos bR1 hb1
  gi_wp2
  have HBa := Lib.hid (below_alloc w1 (.cells #[.slice pa ([] : List (List Int)).length pc, .slice la ([] : List Int).length lc] 56))
  refine ⟨trivial, ?_⟩
  refine (callsIn_wide.2 (HI.out _ (HB1.out.trans (HBa.out.mono HB1.out.size)))).mono ?_
  rintro e w2 ⟨b, ok, rfl, hb2⟩
  have hs2 : w1.heap.size ≤ w2.heap.size := by have := hb2.size; rw [World.size_alloc] at this; omega
  have HR2 := Lib.hid ((hb2.block _ (by rw [World.size_alloc]; omega)).trans ((HBa.out.block _ (by omega)).trans HR1.out))
  have HB2 := Lib.hid (HB1.out.trans ((HBa.out.trans (hb2.mono HBa.out.size)).mono HB1.out.size))
  have fR0 : w2.frozen? ⟨w.heap.size, 0, none⟩ = false := by simp [World.frozen?, HR2.out]
  have fR1 : w2.frozen? ⟨w.heap.size, 1, none⟩ = false := by simp [World.frozen?, HR2.out]
  have cR0 : w2.cell? ⟨w.heap.size, 0, none⟩ = some (.slice none 0 0) := by simp [World.cell?, HR2.out]
  have cR1 : w2.cell? ⟨w.heap.size, 1, none⟩ = some (.int .i64 0) := by simp [World.cell?, HR2.out]
  clear hb2 HBa
  gi_wp2
  have hp := set_plane (v' := .slice none 0 0) (b' := .int .i64 0) HR2.out
  have q0 : ((w2.setCell ⟨w.heap.size, 0, none⟩ (.slice none 0 0)).setCell ⟨w.heap.size, 1, none⟩ (.int .i64 0)).cell? ⟨w.heap.size, 0, none⟩ = some (.slice none 0 0) := by simp [World.cell?, hp]
  have q1 : ((w2.setCell ⟨w.heap.size, 0, none⟩ (.slice none 0 0)).setCell ⟨w.heap.size, 1, none⟩ (.int .i64 0)).cell? ⟨w.heap.size, 1, none⟩ = some (.int .i64 0) := by simp [World.cell?, hp]
  exact ⟨.tuple #[.agg #[.slice none 0 0, .int .i64 0], .bool false], by simp [results, Try.results47, go_sem, q0, q1], .slice none 0 0, rfl, OwnI.nil _ _ _, (HB2.out.setCell (Nat.le_refl _) _).setCell (Nat.le_refl _) _⟩
theorem impl_no1 (n : Int) (a : Option Addr) (zs : List Int) (c : Nat) (w : World) (hr : ints.Reads .i64 w a zs) (hk : tab.tabB n zs = false) :
    Calls Try.prog 47 #[.int .i64 n, .slice a zs.length c] w (RetPB [] 0 false w) :=
  impl_no n a zs c w (Lib.hid fun W hb => if h : n < 1 then tablesample.impl_lo n a zs c W (hr.below hb) h else tablesample.impl_no n a zs c W (hr.below hb) h (Lib.hid fun wa hra => tab.impl_tab n a zs c wa hra false (Lib.hid hk)))
    (Lib.hid fun W hb => (isthr.impl_no n a zs c W (hr.below hb) hk).mono fun e W' h => ⟨_, _, h.1, h.2⟩)
theorem impl_no2 (a : Option Addr) (zs : List Int) (c : Nat) (w : World) (hr : ints.Reads .i64 w a zs) (hk : tab.tabB 0 zs = true) :
    Calls Try.prog 47 #[.int .i64 0, .slice a zs.length c] w (RetPB [] 0 false w) :=
  impl_no 0 a zs c w (Lib.hid fun W hb => tablesample.impl_lo 0 a zs c W (hr.below hb) (by decide))
    (Lib.hid fun W hb => (isthr.impl_yes 0 a zs c W (hr.below hb) hk).mono fun e W' h => ⟨_, _, h.1, h.2⟩)
theorem impl_yes (n : Nat) (a : Option Addr) (zs : List Int) (c : Nat) (w : World) (hr : ints.Reads .i64 w a zs) (hk : tab.tabB n zs = true) (h1 : 1 ≤ n) :
    Calls Try.prog 47 #[.int .i64 n, .slice a zs.length c] w (RetPB (bs n zs (wts n) (wts n).length).1 (bv n zs (wts n).length) (bs n zs (wts n) (wts n).length).2 w) :=
  callsIn_wide.1 (least_in 8 (Nat.le_refl _) n a zs c w hr hk h1 (Lib.hid fun W hb => by rw [thr.thr_iff hk]; exact isthr.impl_yes n a zs c W (hr.below hb) hk))
theorem best_len (n : Nat) (zs : List Int) (hk : tab.tabB n zs = true) : (bs n zs (wts n) (wts n).length).1.length ≤ 4 := by
  obtain ⟨m0, he, h4, _⟩ := tab_nat hk
  rcases bs_row n zs (wts n) (wts n).length (Nat.le_refl _) with e | e
  · rw [e]; simp
  · rw [(wts_row e).1]; omega
end Go.Proofs.Ytoephhhofkmgjab.leastn

namespace Go.Proofs.Ytoephhhofkmgjab.single
open Go.RowKit own pp nums planes netp netb givep tabp gives own1 givei evali tabs9 tabi9
set_option linter.unusedVariables false
set_option linter.unusedSimpArgs false

/-- The table of the first gate of the last layer. -/
def tab0 (n : Nat) (ls : List (List (List Int × Int))) : List Int := (tabs n ls).getD 0 []
def sgB (n : Int) (ls : List (List (List Int × Int))) : Bool := netB n ls && decide (outs ls = 1)
theorem sg_iff (n : Int) (ls : List (List (List Int × Int))) : sgB n ls = true ↔ netB n ls = true ∧ outs ls = 1 := by simp [sgB]
theorem gvs_bit {n : Nat} {ls : List (List (List Int × Int))} (h : netB n ls = true) (p : Nat) : (gvs n ls p).getD 0 0 = 0 ∨ (gvs n ls p).getD 0 0 = 1 := by
  have h1 := net_len h
  obtain ⟨q, hq⟩ : ∃ q, ls.length = q + 1 := ⟨ls.length - 1, by omega⟩
  unfold gvs
  rw [hq, run_succ]
  by_cases h0 : 0 < (ls.getD q []).length
  · unfold give
    rw [mk.mk_getD _ _ _ h0]
    exact bitv_cases _ _
  · left
    have : (give (ls.getD q []) (runTo ls (bitw.bitsTo p n) q)).length = 0 := by rw [give_length]; omega
    rw [List.length_eq_zero_iff.1 this]; rfl
theorem tab0_is {n : Nat} {ls : List (List (List Int × Int))} (h : sgB n ls = true) : tab0 n ls = col (gvs n ls) 0 (2 ^ n) := by
  have h1 := (sg_iff _ _).1 h
  unfold tab0 tabs
  rw [rowsAt_getD _ _ _ _ _ (by omega), if_neg (by omega)]
theorem tab0_ok {n : Nat} {ls : List (List (List Int × Int))} (h : sgB n ls = true) : tab.tabB n (tab0 n ls) = true := by
  have h1 := (sg_iff _ _).1 h
  have h2 := (netB_iff _ _).1 h1.1
  rw [tab0_is h]
  refine (tab.tab_iff _ _).2 ⟨by omega, by rw [col_len]; rfl, all_true _ 0 _ fun k hk => ?_⟩
  rw [col_len] at hk
  unfold col
  rw [mk.mk_getD _ _ _ hk, range.inR_iff]
  rcases gvs_bit h1.1 k with e | e <;> rw [e] <;> omega
set_option maxRecDepth 100000 in
set_option maxHeartbeats 1600000 in
theorem spec_single_no1 (a : Option Addr) (ls : List (List (List Int × Int))) (c : Nat) (n : Int) (w : World) (hr : ReadsL w a ls) (hn : ls.length ≤ 1048576) (hm : ∀ x ∈ ls, x.length ≤ 1048576 ∧ ∀ y ∈ x, y.1.length ≤ 1048576) (hk : netB n ls = false) :
    Calls Try.prog 24 #[.agg #[.int .i64 n, .slice a ls.length c]] w (RetPB [] 0 false w) := by
  have Hhr := Lib.hid hr
  have Hhm := Lib.hid hm
  clear hr hm
  have HGO := Lib.hid (fun (W : World) (hB : Below w.heap.size w W) => spec_good a ls c n W (Hhr.out.below hB) hn Hhm.out false (Lib.hid hk))
  clear hk
  go_enter Try.func24, Try.ntmps24
  obtain ⟨wb1, hw1⟩ : ∃ wb1 : World, wb1 = w.alloc (.cells #[.int .i64 n, .slice a ls.length c] 36) := ⟨_, rfl⟩
  obtain ⟨wb2, hw2⟩ : ∃ wb2 : World, wb2 = wb1.alloc (.cells #[.slice none 0 0, .int .i64 0] 46) := ⟨_, rfl⟩
  have z1 : wb1.heap.size = w.heap.size + 1 := by rw [hw1]; simp
  have z2 : wb2.heap.size = w.heap.size + 2 := by rw [hw2]; simp; omega
  have x0_0 := (by rw [hw2]; exact cell_old _ (by rw [hw1]; exact cell_new _ _ _ rfl rfl : wb1.cell? ⟨w.heap.size, 0, none⟩ = some (.int .i64 n)) : wb2.cell? ⟨w.heap.size, 0, none⟩ = some (.int .i64 n))
  have x0_1 := (by rw [hw2]; exact cell_old _ (by rw [hw1]; exact cell_new _ _ _ rfl rfl : wb1.cell? ⟨w.heap.size, 1, none⟩ = some (.slice a ls.length c)) : wb2.cell? ⟨w.heap.size, 1, none⟩ = some (.slice a ls.length c))
  have x1_0 := (by rw [hw2]; exact cell_new _ _ _ z1.symm rfl : wb2.cell? ⟨w.heap.size + 1, 0, none⟩ = some (.slice none 0 0))
  have x1_1 := (by rw [hw2]; exact cell_new _ _ _ z1.symm rfl : wb2.cell? ⟨w.heap.size + 1, 1, none⟩ = some (.int .i64 0))
  have HB0 := Lib.hid (show Below w.heap.size w wb2 by rw [hw2]; exact (show Below w.heap.size w wb1 by rw [hw1]; exact (Below.refl w.heap.size w).alloc (Nat.le_refl _) _).alloc (by omega) _)
  have s2 : w.heap.size + 2 ≤ wb2.heap.size := by omega
  have f1_0 := (by rw [hw2]; exact fro_new _ _ _ z1.symm : wb2.frozen? ⟨w.heap.size + 1, 0, none⟩ = false)
  have f1_1 := (by rw [hw2]; exact fro_new _ _ _ z1.symm : wb2.frozen? ⟨w.heap.size + 1, 1, none⟩ = false)
  have HZ2 := Lib.hid z2
  clear z1 z2
  go_wp2_with fail
  rw [← hw1, ← hw2]
  clear hw1 hw2
  refine (HGO.out wb2 HB0.out).mono ?_
  rintro e w2 ⟨rfl, hb⟩
  replace x0_0 := cell_below hb x0_0 (by omega)
  replace x0_1 := cell_below hb x0_1 (by omega)
  replace x1_0 := cell_below hb x1_0 (by omega)
  replace x1_1 := cell_below hb x1_1 (by omega)
  replace f1_0 := fro_below hb f1_0 (by omega)
  replace f1_1 := fro_below hb f1_1 (by omega)
  have s2b : w.heap.size + 2 ≤ w2.heap.size := by have := hb.size; omega
  have HB2 := Lib.hid (HB0.out.trans (hb.mono (by omega)))
  clear hb
  go_wp2_with fail
  refine bodyPost_ret (v := .tuple #[.agg #[.slice none 0 0, .int .i64 0], .bool false]) (by simp [results, Try.results24, go_sem, x1_0, x1_1, f1_0, f1_1]) rfl ⟨_, rfl, ?_, ?_⟩
  · exact OwnI.nil _ _ _
  · exact (HB2.out.setCell (by simp) _).setCell (by simp) _
set_option maxRecDepth 100000 in
set_option maxHeartbeats 1600000 in
theorem spec_single_no2 (a : Option Addr) (ls : List (List (List Int × Int))) (c : Nat) (n : Nat) (w : World) (hr : ReadsL w a ls) (hn : ls.length ≤ 1048576) (hm : ∀ x ∈ ls, x.length ≤ 1048576 ∧ ∀ y ∈ x, y.1.length ≤ 1048576) (hk : netB (n : Int) ls = true) (ho : outs ls ≠ 1) :
    Calls Try.prog 24 #[.agg #[.int .i64 (n : Nat), .slice a ls.length c]] w (RetPB [] 0 false w) := by
  have h1 := hk
  have hl6 := net_len h1
  have hn14 : 1 ≤ n ∧ n ≤ 4 := by have := (netB_iff _ _).1 h1; omega
  have HGO := Lib.hid (fun (W : World) (hB : Below w.heap.size w W) => spec_good a ls c (n : Int) W (hr.below hB) hn hm true (Lib.hid h1))
  obtain ⟨L9, hK⟩ : ∃ L9, ls.length = L9 + 1 := ⟨ls.length - 1, by omega⟩
  have hK6 : L9 ≤ 5 := by omega
  have HHD := Lib.hid (fun (W : World) (hB : Below w.heap.size w W) => (hr.below hB).at (k := L9) (by omega))
  have HOU := Lib.hid (show (ls.getD L9 []).length = outs ls by unfold outs; rw [hK]; rfl)
  rw [hK] at HGO ⊢
  clear hr hm hk h1 hK
  have gne : ((outs ls : Int) != 1) = true := by simp; omega
  generalize outs ls = m at *
  go_enter Try.func24, Try.ntmps24
  obtain ⟨wb1, hw1⟩ : ∃ wb1 : World, wb1 = w.alloc (.cells #[.int .i64 (n : Nat), .slice a (L9 + 1) c] 36) := ⟨_, rfl⟩
  obtain ⟨wb2, hw2⟩ : ∃ wb2 : World, wb2 = wb1.alloc (.cells #[.slice none 0 0, .int .i64 0] 46) := ⟨_, rfl⟩
  have z1 : wb1.heap.size = w.heap.size + 1 := by rw [hw1]; simp
  have z2 : wb2.heap.size = w.heap.size + 2 := by rw [hw2]; simp; omega
  have x0_0 := (by rw [hw2]; exact cell_old _ (by rw [hw1]; exact cell_new _ _ _ rfl rfl : wb1.cell? ⟨w.heap.size, 0, none⟩ = some (.int .i64 (n : Nat))) : wb2.cell? ⟨w.heap.size, 0, none⟩ = some (.int .i64 (n : Nat)))
  have x0_1 := (by rw [hw2]; exact cell_old _ (by rw [hw1]; exact cell_new _ _ _ rfl rfl : wb1.cell? ⟨w.heap.size, 1, none⟩ = some (.slice a (L9 + 1) c)) : wb2.cell? ⟨w.heap.size, 1, none⟩ = some (.slice a (L9 + 1) c))
  have x1_0 := (by rw [hw2]; exact cell_new _ _ _ z1.symm rfl : wb2.cell? ⟨w.heap.size + 1, 0, none⟩ = some (.slice none 0 0))
  have x1_1 := (by rw [hw2]; exact cell_new _ _ _ z1.symm rfl : wb2.cell? ⟨w.heap.size + 1, 1, none⟩ = some (.int .i64 0))
  have HB0 := Lib.hid (show Below w.heap.size w wb2 by rw [hw2]; exact (show Below w.heap.size w wb1 by rw [hw1]; exact (Below.refl w.heap.size w).alloc (Nat.le_refl _) _).alloc (by omega) _)
  have s2 : w.heap.size + 2 ≤ wb2.heap.size := by omega
  have f1_0 := (by rw [hw2]; exact fro_new _ _ _ z1.symm : wb2.frozen? ⟨w.heap.size + 1, 0, none⟩ = false)
  have f1_1 := (by rw [hw2]; exact fro_new _ _ _ z1.symm : wb2.frozen? ⟨w.heap.size + 1, 1, none⟩ = false)
  have HZ2 := Lib.hid z2
  clear z1 z2
  go_wp2_with fail
  rw [← hw1, ← hw2]
  clear hw1 hw2
  refine (HGO.out wb2 HB0.out).mono ?_
  rintro e w2 ⟨rfl, hb⟩
  replace x0_0 := cell_below hb x0_0 (by omega)
  replace x0_1 := cell_below hb x0_1 (by omega)
  replace x1_0 := cell_below hb x1_0 (by omega)
  replace x1_1 := cell_below hb x1_1 (by omega)
  replace f1_0 := fro_below hb f1_0 (by omega)
  replace f1_1 := fro_below hb f1_1 (by omega)
  have s2b : w.heap.size + 2 ≤ w2.heap.size := by have := hb.size; omega
  have HB2 := Lib.hid (HB0.out.trans (hb.mono (by omega)))
  clear hb
  obtain ⟨b0, off0, pl, ql, hab, hb0, hcl, _, _⟩ := HHD.out w2 HB2.out
  rw [HOU.out] at hcl
  subst hab
  clear HHD
  go_wp2_with fail
  refine bodyPost_ret (v := .tuple #[.agg #[.slice none 0 0, .int .i64 0], .bool false]) (by simp [results, Try.results24, go_sem, x1_0, x1_1, f1_0, f1_1]) rfl ⟨_, rfl, ?_, ?_⟩
  · exact OwnI.nil _ _ _
  · exact (HB2.out.setCell (by simp) _).setCell (by simp) _
set_option maxRecDepth 100000 in
set_option maxHeartbeats 1600000 in
theorem spec_single_yes (a : Option Addr) (ls : List (List (List Int × Int))) (c : Nat) (n : Nat) (w : World) (hr : ReadsL w a ls) (hn : ls.length ≤ 1048576) (hm : ∀ x ∈ ls, x.length ≤ 1048576 ∧ ∀ y ∈ x, y.1.length ≤ 1048576) (hk : sgB (n : Int) ls = true) :
    Calls Try.prog 24 #[.agg #[.int .i64 (n : Nat), .slice a ls.length c]] w (RetPB (least5.bs n (tab0 n ls) (wts.wts n) (wts.wts n).length).1 (leasti.bv n (tab0 n ls) (wts.wts n).length) (least5.bs n (tab0 n ls) (wts.wts n) (wts.wts n).length).2 w) := by
  have h12 := (sg_iff _ _).1 hk
  have h1 := h12.1
  have hl6 := net_len h1
  have hn14 : 1 ≤ n ∧ n ≤ 4 := by have := (netB_iff _ _).1 h1; omega
  have hok := tab0_ok hk
  have HTL := Lib.hid (show (tabs n ls).length = 1 by rw [tabs_length]; exact h12.2)
  have HT0 := Lib.hid (show (tabs n ls).getD 0 [] = tab0 n ls from rfl)
  have HGO := Lib.hid (fun (W : World) (hB : Below w.heap.size w W) => spec_good a ls c (n : Int) W (hr.below hB) hn hm true (Lib.hid h1))
  have HTB := Lib.hid (fun (W : World) (hB : Below w.heap.size w W) => spec_tables a ls c n W (hr.below hB) hn h1)
  have HLS := Lib.hid (fun (W : World) (p : Option Addr) (q : Nat) (hrd : ints.Reads .i64 W p (tab0 n ls)) => leastn.spec_yes n p (tab0 n ls) q W hrd hok hn14.1)
  obtain ⟨L9, hK⟩ : ∃ L9, ls.length = L9 + 1 := ⟨ls.length - 1, by omega⟩
  have hK6 : L9 ≤ 5 := by omega
  have HHD := Lib.hid (fun (W : World) (hB : Below w.heap.size w W) => (hr.below hB).at (k := L9) (by omega))
  have HOU := Lib.hid (show (ls.getD L9 []).length = outs ls by unfold outs; rw [hK]; rfl)
  rw [h12.2] at HOU
  rw [hK] at HGO HTB ⊢
  clear hr hm hk h1 hK h12 hok
  generalize (leasti.bv n (tab0 n ls) (wts.wts n).length) = bb at *
  generalize (least5.bs n (tab0 n ls) (wts.wts n) (wts.wts n).length).1 = bw at *
  generalize (least5.bs n (tab0 n ls) (wts.wts n) (wts.wts n).length).2 = ok at *
  generalize tabs n ls = tb at *
  generalize tab0 n ls = T at *
  go_enter Try.func24, Try.ntmps24
  obtain ⟨wb1, hw1⟩ : ∃ wb1 : World, wb1 = w.alloc (.cells #[.int .i64 (n : Nat), .slice a (L9 + 1) c] 36) := ⟨_, rfl⟩
  obtain ⟨wb2, hw2⟩ : ∃ wb2 : World, wb2 = wb1.alloc (.cells #[.slice none 0 0, .int .i64 0] 46) := ⟨_, rfl⟩
  have z1 : wb1.heap.size = w.heap.size + 1 := by rw [hw1]; simp
  have z2 : wb2.heap.size = w.heap.size + 2 := by rw [hw2]; simp; omega
  have x0_0 := (by rw [hw2]; exact cell_old _ (by rw [hw1]; exact cell_new _ _ _ rfl rfl : wb1.cell? ⟨w.heap.size, 0, none⟩ = some (.int .i64 (n : Nat))) : wb2.cell? ⟨w.heap.size, 0, none⟩ = some (.int .i64 (n : Nat)))
  have x0_1 := (by rw [hw2]; exact cell_old _ (by rw [hw1]; exact cell_new _ _ _ rfl rfl : wb1.cell? ⟨w.heap.size, 1, none⟩ = some (.slice a (L9 + 1) c)) : wb2.cell? ⟨w.heap.size, 1, none⟩ = some (.slice a (L9 + 1) c))
  have x1_0 := (by rw [hw2]; exact cell_new _ _ _ z1.symm rfl : wb2.cell? ⟨w.heap.size + 1, 0, none⟩ = some (.slice none 0 0))
  have x1_1 := (by rw [hw2]; exact cell_new _ _ _ z1.symm rfl : wb2.cell? ⟨w.heap.size + 1, 1, none⟩ = some (.int .i64 0))
  have HB0 := Lib.hid (show Below w.heap.size w wb2 by rw [hw2]; exact (show Below w.heap.size w wb1 by rw [hw1]; exact (Below.refl w.heap.size w).alloc (Nat.le_refl _) _).alloc (by omega) _)
  have s2 : w.heap.size + 2 ≤ wb2.heap.size := by omega
  have f1_0 := (by rw [hw2]; exact fro_new _ _ _ z1.symm : wb2.frozen? ⟨w.heap.size + 1, 0, none⟩ = false)
  have f1_1 := (by rw [hw2]; exact fro_new _ _ _ z1.symm : wb2.frozen? ⟨w.heap.size + 1, 1, none⟩ = false)
  have HZ2 := Lib.hid z2
  clear z1 z2
  go_wp2_with fail
  rw [← hw1, ← hw2]
  clear hw1 hw2
  refine (HGO.out wb2 HB0.out).mono ?_
  rintro e w2 ⟨rfl, hb⟩
  replace x0_0 := cell_below hb x0_0 (by omega)
  replace x0_1 := cell_below hb x0_1 (by omega)
  replace x1_0 := cell_below hb x1_0 (by omega)
  replace x1_1 := cell_below hb x1_1 (by omega)
  replace f1_0 := fro_below hb f1_0 (by omega)
  replace f1_1 := fro_below hb f1_1 (by omega)
  have s2b : w.heap.size + 2 ≤ w2.heap.size := by have := hb.size; omega
  have HB2 := Lib.hid (HB0.out.trans (hb.mono (by omega)))
  clear hb
  obtain ⟨b0, off0, pl, ql, hab, hb0, hcl, _, _⟩ := HHD.out w2 HB2.out
  rw [HOU.out] at hcl
  subst hab
  clear HHD
  go_wp2_with fail
  refine wp_region_noPanic ?_
  refine wp_region_held_drew (S := fun w' => w'.cell? ⟨w.heap.size, 0, none⟩ = some (.int .i64 (n : Nat)) ∧ w'.cell? ⟨w.heap.size, 1, none⟩ = some (.slice (some ⟨b0, off0, none⟩) (L9 + 1) c)) (by kernel_rfl) ?_ (fun hHeld => ?_)
  · exact ⟨x0_0, x0_1⟩
  have hb9 : Below w2.heap.size w2 w2.drew := (Below.refl _ _).drew
  replace x0_0 := cell_below hb9 x0_0 (by omega)
  replace x0_1 := cell_below hb9 x0_1 (by omega)
  replace x1_0 := cell_below hb9 x1_0 (by omega)
  replace x1_1 := cell_below hb9 x1_1 (by omega)
  replace f1_0 := fro_below hb9 f1_0 (by omega)
  replace f1_1 := fro_below hb9 f1_1 (by omega)
  have hsd : w2.heap.size ≤ w2.drew.heap.size := hb9.size
  have HBd := Lib.hid (HB2.out.trans (hb9.mono (by omega)))
  generalize w2.drew = wd at *
  refine wpAnyH_take (i := 0) (v := ?_) rfl (by kernel_rfl) (by kernel_rfl) (by kernel_rfl) (fun _ _ _ h => h) (Or.inl ⟨by rfl, ?_⟩) (by assumption) ?_
  rotate_left
  · intro w9 hSw; (try dsimp only at hSw); go_simp; try with_reducible rfl
  try simp only [List.getElem_toArray, List.getElem_cons_succ, List.getElem_cons_zero, Act.put, List.setIfInBounds_toArray, List.set_cons_zero, List.set_cons_succ]
  refine wpAnyH_take (i := 1) (v := ?_) rfl (by kernel_rfl) (by kernel_rfl) (by kernel_rfl) (fun _ _ _ h => h) (Or.inl ⟨by rfl, ?_⟩) (by assumption) ?_
  rotate_left
  · intro w9 hSw; (try dsimp only at hSw); go_simp; try with_reducible rfl
  try simp only [List.getElem_toArray, List.getElem_cons_succ, List.getElem_cons_zero, Act.put, List.setIfInBounds_toArray, List.set_cons_zero, List.set_cons_succ]
  refine wpAnyH_take (i := 2) (v := ?_) rfl (by kernel_rfl) (by kernel_rfl) (by kernel_rfl) (fun _ _ _ h => h) (Or.inl ⟨by rfl, ?_⟩) (by assumption) ?_
  rotate_left
  · intro w9 hSw; (try dsimp only at hSw); go_simp; try with_reducible rfl
  try simp only [List.getElem_toArray, List.getElem_cons_succ, List.getElem_cons_zero, Act.put, List.setIfInBounds_toArray, List.set_cons_zero, List.set_cons_succ]
  refine wpAnyH_ready (rs := [3]) (by kernel_rfl) (by simp) ?_
  refine AllReadyH.cons rfl (fun K hK => ?_) AllReadyH.nil
  clear hHeld
  go_simp
  refine (HTB.out wd HBd.out).mono ?_
  rintro e v1 ⟨vt, rfl, hot, hb1⟩
  replace x0_0 := cell_below hb1 x0_0 (by omega)
  replace x0_1 := cell_below hb1 x0_1 (by omega)
  replace x1_0 := cell_below hb1 x1_0 (by omega)
  replace x1_1 := cell_below hb1 x1_1 (by omega)
  replace f1_0 := fro_below hb1 f1_0 (by omega)
  replace f1_1 := fro_below hb1 f1_1 (by omega)
  have hs1 := hb1.size
  have HB1 := Lib.hid (HBd.out.trans (hb1.mono (by omega)))
  obtain ⟨gt, cgt, rfl, hrg, _, _⟩ := hot.slice
  obtain ⟨b1, off1, pr, qr, hgt, hb1l, hct, _, hrt⟩ := hrg.at (k := 0) (by rw [HTL.out]; omega)
  subst hgt
  rw [Nat.add_zero, HT0.out] at hct
  rw [HT0.out] at hrt
  have HRT := Lib.hid hrt
  rw [HTL.out]
  clear hot hb1 hrg hrt
  refine hK.out _ _ ?_ (fun hHeld => ?_)
  · exact ⟨x0_0, x0_1⟩
  clear hK K
  try simp only [List.getElem_toArray, List.getElem_cons_succ, List.getElem_cons_zero, Act.put, List.setIfInBounds_toArray, List.set_cons_zero, List.set_cons_succ]
  refine wpAnyH_take (i := 4) (v := ?_) rfl (by kernel_rfl) (by kernel_rfl) (by kernel_rfl) (fun _ _ _ h => h) (Or.inl ⟨by rfl, ?_⟩) (by assumption) ?_
  rotate_left
  · intro w9 hSw; (try dsimp only at hSw); go_simp; try with_reducible rfl
  try simp only [List.getElem_toArray, List.getElem_cons_succ, List.getElem_cons_zero, Act.put, List.setIfInBounds_toArray, List.set_cons_zero, List.set_cons_succ]
  refine wpAnyH_ready (rs := [5]) (by kernel_rfl) (by simp) ?_
  refine AllReadyH.cons rfl (fun K hK => ?_) AllReadyH.nil
  clear hHeld
  go_simp
  refine hK.out _ _ ?_ (fun hHeld => ?_)
  · exact ⟨x0_0, x0_1⟩
  clear hK K
  try simp only [List.getElem_toArray, List.getElem_cons_succ, List.getElem_cons_zero, Act.put, List.setIfInBounds_toArray, List.set_cons_zero, List.set_cons_succ]
  refine wpAnyH_ready (rs := [6]) (by kernel_rfl) (by simp) ?_
  refine AllReadyH.cons rfl (fun K hK => ?_) AllReadyH.nil
  clear hHeld
  go_simp
  refine (HLS.out v1 pr qr HRT.out).mono ?_
  rintro e v2 ⟨vp, rfl, hop, hb2⟩
  obtain ⟨pp, qq, rfl, _, _, _⟩ := hop.slice
  have HOP := Lib.hid hop
  replace x0_0 := cell_below hb2 x0_0 (by omega)
  replace x0_1 := cell_below hb2 x0_1 (by omega)
  replace x1_0 := cell_below hb2 x1_0 (by omega)
  replace x1_1 := cell_below hb2 x1_1 (by omega)
  replace f1_0 := fro_below hb2 f1_0 (by omega)
  replace f1_1 := fro_below hb2 f1_1 (by omega)
  have hs2 := hb2.size
  have HBf := Lib.hid (HB1.out.trans (hb2.mono (by omega)))
  clear hop hb2 hct
  refine hK.out _ _ ?_ (fun hHeld => ?_)
  · exact ⟨x0_0, x0_1⟩
  clear hK K
  try simp only [List.getElem_toArray, List.getElem_cons_succ, List.getElem_cons_zero, Act.put, List.setIfInBounds_toArray, List.set_cons_zero, List.set_cons_succ]
  refine wpAnyH_take (i := 7) (v := ?_) rfl (by kernel_rfl) (by kernel_rfl) (by kernel_rfl) (fun _ _ _ h => h) (Or.inl ⟨by rfl, ?_⟩) (by assumption) ?_
  rotate_left
  · intro w9 hSw; (try dsimp only at hSw); go_simp; try with_reducible rfl
  try simp only [List.getElem_toArray, List.getElem_cons_succ, List.getElem_cons_zero, Act.put, List.setIfInBounds_toArray, List.set_cons_zero, List.set_cons_succ]
  refine wpAnyH_take (i := 8) (v := ?_) rfl (by kernel_rfl) (by kernel_rfl) (by kernel_rfl) (fun _ _ _ h => h) (Or.inl ⟨by rfl, ?_⟩) (by assumption) ?_
  rotate_left
  · intro w9 hSw; (try dsimp only at hSw); go_simp; try with_reducible rfl
  try simp only [List.getElem_toArray, List.getElem_cons_succ, List.getElem_cons_zero, Act.put, List.setIfInBounds_toArray, List.set_cons_zero, List.set_cons_succ]
  refine wpAnyH_ready (rs := [9]) (by kernel_rfl) (by simp) ?_
  refine AllReadyH.cons rfl (fun K hK => ?_) AllReadyH.nil
  clear hHeld
  go_simp
  have z0 : ((v2.setCell ⟨w.heap.size + 1, 0, none⟩ (.slice pp bw.length qq)).setCell ⟨w.heap.size + 1, 1, none⟩ (.int .i64 bb)).cell? ⟨w.heap.size + 1, 0, none⟩ = some (.slice pp bw.length qq) := (World.cell?_setCell_other _ _ _ _ (by simp)).trans (World.cell?_setCell_same _ _ _ x1_0)
  have z1 : ((v2.setCell ⟨w.heap.size + 1, 0, none⟩ (.slice pp bw.length qq)).setCell ⟨w.heap.size + 1, 1, none⟩ (.int .i64 bb)).cell? ⟨w.heap.size + 1, 1, none⟩ = some (.int .i64 bb) := World.cell?_setCell_same _ _ _ ((World.cell?_setCell_other _ _ _ _ (by simp)).trans x1_1)
  have y0_0 : ((v2.setCell ⟨w.heap.size + 1, 0, none⟩ (.slice pp bw.length qq)).setCell ⟨w.heap.size + 1, 1, none⟩ (.int .i64 bb)).cell? ⟨w.heap.size, 0, none⟩ = some (.int .i64 (n : Nat)) := (World.cell?_setCell_other _ _ _ _ (by simp)).trans ((World.cell?_setCell_other _ _ _ _ (by simp)).trans x0_0)
  have y0_1 : ((v2.setCell ⟨w.heap.size + 1, 0, none⟩ (.slice pp bw.length qq)).setCell ⟨w.heap.size + 1, 1, none⟩ (.int .i64 bb)).cell? ⟨w.heap.size, 1, none⟩ = some (.slice (some ⟨b0, off0, none⟩) (L9 + 1) c) := (World.cell?_setCell_other _ _ _ _ (by simp)).trans ((World.cell?_setCell_other _ _ _ _ (by simp)).trans x0_1)
  refine hK.out _ _ ?_ (fun hHeld => ?_)
  · exact ⟨y0_0, y0_1⟩
  clear hK K
  try simp only [List.getElem_toArray, List.getElem_cons_succ, List.getElem_cons_zero, Act.put, List.setIfInBounds_toArray, List.set_cons_zero, List.set_cons_succ]
  refine wpAnyH_take (i := 10) (v := ?_) rfl (by kernel_rfl) (by kernel_rfl) (by kernel_rfl) (fun _ _ _ h => h) (Or.inl ⟨by rfl, ?_⟩) (by assumption) ?_
  rotate_left
  · intro w9 hSw; (try dsimp only at hSw); go_simp; try with_reducible rfl
  try simp only [List.getElem_toArray, List.getElem_cons_succ, List.getElem_cons_zero, Act.put, List.setIfInBounds_toArray, List.set_cons_zero, List.set_cons_succ]
  refine wpAnyH_done (by kernel_rfl) ?_ _
  refine NoPanic.normal ?_
  clear hHeld
  go_wp2_with fail
  refine bodyPost_ret (v := .tuple #[.agg #[.slice pp bw.length qq, .int .i64 bb], .bool ok]) (by simp [results, Try.results24, go_sem, z0, z1]) rfl ⟨_, rfl, ?_, ?_⟩
  · simp only [size_set]
    exact ((HOP.out.set (a := ⟨w.heap.size + 1, 0, none⟩) (by show w.heap.size + 1 < _; omega) _).set (a := ⟨w.heap.size + 1, 1, none⟩) (by show w.heap.size + 1 < _; omega) _).mono (by omega) (Nat.le_refl _)
  · exact (HBf.out.setCell (by simp) _).setCell (by simp) _
set_option maxRecDepth 100000 in
set_option maxHeartbeats 1600000 in
theorem impl_single_no1 (a : Option Addr) (ls : List (List (List Int × Int))) (c : Nat) (n : Int) (w : World) (hr : ReadsL w a ls) (hn : ls.length ≤ 1048576) (hm : ∀ x ∈ ls, x.length ≤ 1048576 ∧ ∀ y ∈ x, y.1.length ≤ 1048576) (hk : netB n ls = false) :
    Calls Try.prog 26 #[.agg #[.int .i64 n, .slice a ls.length c]] w (RetPB [] 0 false w) := by
  have HTB := Lib.hid (fun (W : World) (hB : Below w.heap.size w W) => impl_tab_no a ls c n W (hr.below hB) hn hm hk)
  clear hr hm hk
  go_enter Try.func26, Try.ntmps26
  obtain ⟨wb1, hw1⟩ : ∃ wb1 : World, wb1 = w.alloc (.cells #[.int .i64 n, .slice a ls.length c] 36) := ⟨_, rfl⟩
  obtain ⟨wb2, hw2⟩ : ∃ wb2 : World, wb2 = wb1.alloc (.cells #[.slice none 0 0, .int .i64 0] 46) := ⟨_, rfl⟩
  have z1 : wb1.heap.size = w.heap.size + 1 := by rw [hw1]; simp
  have z2 : wb2.heap.size = w.heap.size + 2 := by rw [hw2]; simp; omega
  have x0_0 := (by rw [hw2]; exact cell_old _ (by rw [hw1]; exact cell_new _ _ _ rfl rfl : wb1.cell? ⟨w.heap.size, 0, none⟩ = some (.int .i64 n)) : wb2.cell? ⟨w.heap.size, 0, none⟩ = some (.int .i64 n))
  have x0_1 := (by rw [hw2]; exact cell_old _ (by rw [hw1]; exact cell_new _ _ _ rfl rfl : wb1.cell? ⟨w.heap.size, 1, none⟩ = some (.slice a ls.length c)) : wb2.cell? ⟨w.heap.size, 1, none⟩ = some (.slice a ls.length c))
  have x1_0 := (by rw [hw2]; exact cell_new _ _ _ z1.symm rfl : wb2.cell? ⟨w.heap.size + 1, 0, none⟩ = some (.slice none 0 0))
  have x1_1 := (by rw [hw2]; exact cell_new _ _ _ z1.symm rfl : wb2.cell? ⟨w.heap.size + 1, 1, none⟩ = some (.int .i64 0))
  have HB0 := Lib.hid (show Below w.heap.size w wb2 by rw [hw2]; exact (show Below w.heap.size w wb1 by rw [hw1]; exact (Below.refl w.heap.size w).alloc (Nat.le_refl _) _).alloc (by omega) _)
  have s2 : w.heap.size + 2 ≤ wb2.heap.size := by omega
  have f1_0 := (by rw [hw2]; exact fro_new _ _ _ z1.symm : wb2.frozen? ⟨w.heap.size + 1, 0, none⟩ = false)
  have f1_1 := (by rw [hw2]; exact fro_new _ _ _ z1.symm : wb2.frozen? ⟨w.heap.size + 1, 1, none⟩ = false)
  have HZ2 := Lib.hid z2
  clear z1 z2
  go_wp2_with fail
  rw [← hw1, ← hw2]
  clear hw1 hw2
  refine (HTB.out wb2 HB0.out).mono ?_
  rintro e w2 ⟨vt, rfl, hot, hb⟩
  replace x0_0 := cell_below hb x0_0 (by omega)
  replace x0_1 := cell_below hb x0_1 (by omega)
  replace x1_0 := cell_below hb x1_0 (by omega)
  replace x1_1 := cell_below hb x1_1 (by omega)
  replace f1_0 := fro_below hb f1_0 (by omega)
  replace f1_1 := fro_below hb f1_1 (by omega)
  have s2b : w.heap.size + 2 ≤ w2.heap.size := by have := hb.size; omega
  have HB2 := Lib.hid (HB0.out.trans (hb.mono (by omega)))
  obtain ⟨gt, cgt, rfl, _, _, _⟩ := hot.slice
  clear hb hot
  go_wp2_with fail
  refine bodyPost_ret (v := .tuple #[.agg #[.slice none 0 0, .int .i64 0], .bool false]) (by simp [results, Try.results26, go_sem, x1_0, x1_1, f1_0, f1_1]) rfl ⟨_, rfl, ?_, ?_⟩
  · exact OwnI.nil _ _ _
  · exact (HB2.out.setCell (by simp) _).setCell (by simp) _
set_option maxRecDepth 100000 in
set_option maxHeartbeats 1600000 in
theorem impl_single_no2 (a : Option Addr) (ls : List (List (List Int × Int))) (c : Nat) (n : Nat) (w : World) (hr : ReadsL w a ls) (hn : ls.length ≤ 1048576) (hm : ∀ x ∈ ls, x.length ≤ 1048576 ∧ ∀ y ∈ x, y.1.length ≤ 1048576) (hk : netB (n : Int) ls = true) (ho : outs ls ≠ 1) :
    Calls Try.prog 26 #[.agg #[.int .i64 (n : Nat), .slice a ls.length c]] w (RetPB [] 0 false w) := by
  have HTB := Lib.hid (fun (W : World) (hB : Below w.heap.size w W) => (show Calls Try.prog 56 #[.agg #[.int .i64 (n : Nat), .slice a ls.length c]] W (RetGB (tabs n ls) true W) from impl_tab_yes a ls c (n : Int) W (hr.below hB) hn hm hk))
  have HTL := Lib.hid (show (tabs n ls).length = outs ls from tabs_length n ls)
  have gne : ((outs ls : Int) != 1) = true := by simp; omega
  clear hr hm hk
  generalize outs ls = m at *
  generalize tabs n ls = tb at *
  go_enter Try.func26, Try.ntmps26
  obtain ⟨wb1, hw1⟩ : ∃ wb1 : World, wb1 = w.alloc (.cells #[.int .i64 (n : Nat), .slice a ls.length c] 36) := ⟨_, rfl⟩
  obtain ⟨wb2, hw2⟩ : ∃ wb2 : World, wb2 = wb1.alloc (.cells #[.slice none 0 0, .int .i64 0] 46) := ⟨_, rfl⟩
  have z1 : wb1.heap.size = w.heap.size + 1 := by rw [hw1]; simp
  have z2 : wb2.heap.size = w.heap.size + 2 := by rw [hw2]; simp; omega
  have x0_0 := (by rw [hw2]; exact cell_old _ (by rw [hw1]; exact cell_new _ _ _ rfl rfl : wb1.cell? ⟨w.heap.size, 0, none⟩ = some (.int .i64 (n : Nat))) : wb2.cell? ⟨w.heap.size, 0, none⟩ = some (.int .i64 (n : Nat)))
  have x0_1 := (by rw [hw2]; exact cell_old _ (by rw [hw1]; exact cell_new _ _ _ rfl rfl : wb1.cell? ⟨w.heap.size, 1, none⟩ = some (.slice a ls.length c)) : wb2.cell? ⟨w.heap.size, 1, none⟩ = some (.slice a ls.length c))
  have x1_0 := (by rw [hw2]; exact cell_new _ _ _ z1.symm rfl : wb2.cell? ⟨w.heap.size + 1, 0, none⟩ = some (.slice none 0 0))
  have x1_1 := (by rw [hw2]; exact cell_new _ _ _ z1.symm rfl : wb2.cell? ⟨w.heap.size + 1, 1, none⟩ = some (.int .i64 0))
  have HB0 := Lib.hid (show Below w.heap.size w wb2 by rw [hw2]; exact (show Below w.heap.size w wb1 by rw [hw1]; exact (Below.refl w.heap.size w).alloc (Nat.le_refl _) _).alloc (by omega) _)
  have s2 : w.heap.size + 2 ≤ wb2.heap.size := by omega
  have f1_0 := (by rw [hw2]; exact fro_new _ _ _ z1.symm : wb2.frozen? ⟨w.heap.size + 1, 0, none⟩ = false)
  have f1_1 := (by rw [hw2]; exact fro_new _ _ _ z1.symm : wb2.frozen? ⟨w.heap.size + 1, 1, none⟩ = false)
  have HZ2 := Lib.hid z2
  clear z1 z2
  go_wp2_with fail
  rw [← hw1, ← hw2]
  clear hw1 hw2
  refine (HTB.out wb2 HB0.out).mono ?_
  rintro e w2 ⟨vt, rfl, hot, hb⟩
  replace x0_0 := cell_below hb x0_0 (by omega)
  replace x0_1 := cell_below hb x0_1 (by omega)
  replace x1_0 := cell_below hb x1_0 (by omega)
  replace x1_1 := cell_below hb x1_1 (by omega)
  replace f1_0 := fro_below hb f1_0 (by omega)
  replace f1_1 := fro_below hb f1_1 (by omega)
  have s2b : w.heap.size + 2 ≤ w2.heap.size := by have := hb.size; omega
  have HB2 := Lib.hid (HB0.out.trans (hb.mono (by omega)))
  obtain ⟨gt, cgt, rfl, _, _, _⟩ := hot.slice
  rw [HTL.out]
  clear hb hot
  go_wp2_with fail
  refine bodyPost_ret (v := .tuple #[.agg #[.slice none 0 0, .int .i64 0], .bool false]) (by simp [results, Try.results26, go_sem, x1_0, x1_1, f1_0, f1_1]) rfl ⟨_, rfl, ?_, ?_⟩
  · exact OwnI.nil _ _ _
  · exact (HB2.out.setCell (by simp) _).setCell (by simp) _
set_option maxRecDepth 100000 in
set_option maxHeartbeats 1600000 in
theorem impl_single_yes (a : Option Addr) (ls : List (List (List Int × Int))) (c : Nat) (n : Nat) (w : World) (hr : ReadsL w a ls) (hn : ls.length ≤ 1048576) (hm : ∀ x ∈ ls, x.length ≤ 1048576 ∧ ∀ y ∈ x, y.1.length ≤ 1048576) (hk : sgB (n : Int) ls = true) :
    Calls Try.prog 26 #[.agg #[.int .i64 (n : Nat), .slice a ls.length c]] w (RetPB (least5.bs n (tab0 n ls) (wts.wts n) (wts.wts n).length).1 (leasti.bv n (tab0 n ls) (wts.wts n).length) (least5.bs n (tab0 n ls) (wts.wts n) (wts.wts n).length).2 w) := by
  have h12 := (sg_iff _ _).1 hk
  have h1 := h12.1
  have hl6 := net_len h1
  have hn14 : 1 ≤ n ∧ n ≤ 4 := by have := (netB_iff _ _).1 h1; omega
  have hok := tab0_ok hk
  have HTL := Lib.hid (show (tabs n ls).length = 1 by rw [tabs_length]; exact h12.2)
  have HT0 := Lib.hid (show (tabs n ls).getD 0 [] = tab0 n ls from rfl)
  have HTB := Lib.hid (fun (W : World) (hB : Below w.heap.size w W) => (show Calls Try.prog 56 #[.agg #[.int .i64 (n : Nat), .slice a ls.length c]] W (RetGB (tabs n ls) true W) from impl_tab_yes a ls c (n : Int) W (hr.below hB) hn hm h1))
  have HLS := Lib.hid (fun (W : World) (p : Option Addr) (q : Nat) (hrd : ints.Reads .i64 W p (tab0 n ls)) => leastn.impl_yes n p (tab0 n ls) q W hrd hok hn14.1)
  clear hr hm hk h1 h12 hok
  generalize (leasti.bv n (tab0 n ls) (wts.wts n).length) = bb at *
  generalize (least5.bs n (tab0 n ls) (wts.wts n) (wts.wts n).length).1 = bw at *
  generalize (least5.bs n (tab0 n ls) (wts.wts n) (wts.wts n).length).2 = ok at *
  generalize tabs n ls = tb at *
  generalize tab0 n ls = T at *
  go_enter Try.func26, Try.ntmps26
  obtain ⟨wb1, hw1⟩ : ∃ wb1 : World, wb1 = w.alloc (.cells #[.int .i64 (n : Nat), .slice a ls.length c] 36) := ⟨_, rfl⟩
  obtain ⟨wb2, hw2⟩ : ∃ wb2 : World, wb2 = wb1.alloc (.cells #[.slice none 0 0, .int .i64 0] 46) := ⟨_, rfl⟩
  have z1 : wb1.heap.size = w.heap.size + 1 := by rw [hw1]; simp
  have z2 : wb2.heap.size = w.heap.size + 2 := by rw [hw2]; simp; omega
  have x0_0 := (by rw [hw2]; exact cell_old _ (by rw [hw1]; exact cell_new _ _ _ rfl rfl : wb1.cell? ⟨w.heap.size, 0, none⟩ = some (.int .i64 (n : Nat))) : wb2.cell? ⟨w.heap.size, 0, none⟩ = some (.int .i64 (n : Nat)))
  have x0_1 := (by rw [hw2]; exact cell_old _ (by rw [hw1]; exact cell_new _ _ _ rfl rfl : wb1.cell? ⟨w.heap.size, 1, none⟩ = some (.slice a ls.length c)) : wb2.cell? ⟨w.heap.size, 1, none⟩ = some (.slice a ls.length c))
  have x1_0 := (by rw [hw2]; exact cell_new _ _ _ z1.symm rfl : wb2.cell? ⟨w.heap.size + 1, 0, none⟩ = some (.slice none 0 0))
  have x1_1 := (by rw [hw2]; exact cell_new _ _ _ z1.symm rfl : wb2.cell? ⟨w.heap.size + 1, 1, none⟩ = some (.int .i64 0))
  have HB0 := Lib.hid (show Below w.heap.size w wb2 by rw [hw2]; exact (show Below w.heap.size w wb1 by rw [hw1]; exact (Below.refl w.heap.size w).alloc (Nat.le_refl _) _).alloc (by omega) _)
  have s2 : w.heap.size + 2 ≤ wb2.heap.size := by omega
  have f1_0 := (by rw [hw2]; exact fro_new _ _ _ z1.symm : wb2.frozen? ⟨w.heap.size + 1, 0, none⟩ = false)
  have f1_1 := (by rw [hw2]; exact fro_new _ _ _ z1.symm : wb2.frozen? ⟨w.heap.size + 1, 1, none⟩ = false)
  have HZ2 := Lib.hid z2
  clear z1 z2
  go_wp2_with fail
  rw [← hw1, ← hw2]
  clear hw1 hw2
  refine (HTB.out wb2 HB0.out).mono ?_
  rintro e w2 ⟨vt, rfl, hot, hb⟩
  replace x0_0 := cell_below hb x0_0 (by omega)
  replace x0_1 := cell_below hb x0_1 (by omega)
  replace x1_0 := cell_below hb x1_0 (by omega)
  replace x1_1 := cell_below hb x1_1 (by omega)
  replace f1_0 := fro_below hb f1_0 (by omega)
  replace f1_1 := fro_below hb f1_1 (by omega)
  have s2b : w.heap.size + 2 ≤ w2.heap.size := by have := hb.size; omega
  have HB2 := Lib.hid (HB0.out.trans (hb.mono (by omega)))
  obtain ⟨gt, cgt, rfl, hrg, _, _⟩ := hot.slice
  obtain ⟨b1, off1, pr, qr, hgt, hb1l, hct, _, hrt⟩ := hrg.at (k := 0) (by rw [HTL.out]; omega)
  subst hgt
  rw [Nat.add_zero, HT0.out] at hct
  rw [HT0.out] at hrt
  have HRT := Lib.hid hrt
  have hb1g : w.heap.size + 2 ≤ b1 := by have := (hot.lt (g := b1) rfl).1; omega
  rw [HTL.out]
  clear hb hot hrg hrt
  go_wp2_with fail
  refine wp_region_noPanic ?_
  refine wp_region_held_drew (S := fun w' => w'.cell? ⟨w.heap.size, 0, none⟩ = some (.int .i64 (n : Nat)) ∧ w'.cell? ⟨w.heap.size, 1, none⟩ = some (.slice a ls.length c) ∧ w'.cell? ⟨b1, off1, none⟩ = some (.slice pr T.length qr)) (by kernel_rfl) ?_ (fun hHeld => ?_)
  · exact ⟨x0_0, x0_1, hct⟩
  have hb9 : Below w2.heap.size w2 w2.drew := (Below.refl _ _).drew
  replace x0_0 := cell_below hb9 x0_0 (by omega)
  replace x0_1 := cell_below hb9 x0_1 (by omega)
  replace x1_0 := cell_below hb9 x1_0 (by omega)
  replace x1_1 := cell_below hb9 x1_1 (by omega)
  replace f1_0 := fro_below hb9 f1_0 (by omega)
  replace f1_1 := fro_below hb9 f1_1 (by omega)
  replace hct := cell_below hb9 hct (by omega)
  replace HRT := Lib.hid (HRT.out.below hb9)
  have hsd : w2.heap.size ≤ w2.drew.heap.size := hb9.size
  have HBd := Lib.hid (HB2.out.trans (hb9.mono (by omega)))
  generalize w2.drew = wd at *
  refine wpAnyH_take (i := 0) (v := ?_) rfl (by kernel_rfl) (by kernel_rfl) (by kernel_rfl) (fun _ _ _ h => h) (Or.inl ⟨by rfl, ?_⟩) (by assumption) ?_
  rotate_left
  · intro w9 hSw; (try dsimp only at hSw); go_simp; try with_reducible rfl
  try simp only [List.getElem_toArray, List.getElem_cons_succ, List.getElem_cons_zero, Act.put, List.setIfInBounds_toArray, List.set_cons_zero, List.set_cons_succ]
  refine wpAnyH_take (i := 1) (v := ?_) rfl (by kernel_rfl) (by kernel_rfl) (by kernel_rfl) (fun _ _ _ h => h) (Or.inl ⟨by rfl, ?_⟩) (by assumption) ?_
  rotate_left
  · intro w9 hSw; (try dsimp only at hSw); go_simp; try with_reducible rfl
  try simp only [List.getElem_toArray, List.getElem_cons_succ, List.getElem_cons_zero, Act.put, List.setIfInBounds_toArray, List.set_cons_zero, List.set_cons_succ]
  refine wpAnyH_take (i := 2) (v := ?_) rfl (by kernel_rfl) (by kernel_rfl) (by kernel_rfl) (fun _ _ _ h => h) (Or.inl ⟨by rfl, ?_⟩) (by assumption) ?_
  rotate_left
  · intro w9 hSw; (try dsimp only at hSw); go_simp; try with_reducible rfl
  try simp only [List.getElem_toArray, List.getElem_cons_succ, List.getElem_cons_zero, Act.put, List.setIfInBounds_toArray, List.set_cons_zero, List.set_cons_succ]
  refine wpAnyH_take (i := 3) (v := ?_) rfl (by kernel_rfl) (by kernel_rfl) (by kernel_rfl) (fun _ _ _ h => h) (Or.inl ⟨by rfl, ?_⟩) (by assumption) ?_
  rotate_left
  · intro w9 hSw; (try dsimp only at hSw); go_simp; try with_reducible rfl
  try simp only [List.getElem_toArray, List.getElem_cons_succ, List.getElem_cons_zero, Act.put, List.setIfInBounds_toArray, List.set_cons_zero, List.set_cons_succ]
  refine wpAnyH_take (i := 4) (v := ?_) rfl (by kernel_rfl) (by kernel_rfl) (by kernel_rfl) (fun _ _ _ h => h) (Or.inl ⟨by rfl, ?_⟩) (by assumption) ?_
  rotate_left
  · intro w9 hSw; (try dsimp only at hSw); go_simp; try with_reducible rfl
  try simp only [List.getElem_toArray, List.getElem_cons_succ, List.getElem_cons_zero, Act.put, List.setIfInBounds_toArray, List.set_cons_zero, List.set_cons_succ]
  refine wpAnyH_ready (rs := [5]) (by kernel_rfl) (by simp) ?_
  refine AllReadyH.cons rfl (fun K hK => ?_) AllReadyH.nil
  clear hHeld
  go_simp
  refine (HLS.out wd pr qr HRT.out).mono ?_
  rintro e v2 ⟨vp, rfl, hop, hb2⟩
  obtain ⟨pp, qq, rfl, _, _, _⟩ := hop.slice
  have HOP := Lib.hid hop
  replace x0_0 := cell_below hb2 x0_0 (by omega)
  replace x0_1 := cell_below hb2 x0_1 (by omega)
  replace x1_0 := cell_below hb2 x1_0 (by omega)
  replace x1_1 := cell_below hb2 x1_1 (by omega)
  replace f1_0 := fro_below hb2 f1_0 (by omega)
  replace f1_1 := fro_below hb2 f1_1 (by omega)
  replace hct := cell_below hb2 hct (by omega)
  have hs2 := hb2.size
  have HBf := Lib.hid (HBd.out.trans (hb2.mono (by omega)))
  clear hop hb2
  refine hK.out _ _ ?_ (fun hHeld => ?_)
  · exact ⟨x0_0, x0_1, hct⟩
  clear hK K
  try simp only [List.getElem_toArray, List.getElem_cons_succ, List.getElem_cons_zero, Act.put, List.setIfInBounds_toArray, List.set_cons_zero, List.set_cons_succ]
  refine wpAnyH_take (i := 6) (v := ?_) rfl (by kernel_rfl) (by kernel_rfl) (by kernel_rfl) (fun _ _ _ h => h) (Or.inl ⟨by rfl, ?_⟩) (by assumption) ?_
  rotate_left
  · intro w9 hSw; (try dsimp only at hSw); go_simp; try with_reducible rfl
  try simp only [List.getElem_toArray, List.getElem_cons_succ, List.getElem_cons_zero, Act.put, List.setIfInBounds_toArray, List.set_cons_zero, List.set_cons_succ]
  refine wpAnyH_take (i := 7) (v := ?_) rfl (by kernel_rfl) (by kernel_rfl) (by kernel_rfl) (fun _ _ _ h => h) (Or.inl ⟨by rfl, ?_⟩) (by assumption) ?_
  rotate_left
  · intro w9 hSw; (try dsimp only at hSw); go_simp; try with_reducible rfl
  try simp only [List.getElem_toArray, List.getElem_cons_succ, List.getElem_cons_zero, Act.put, List.setIfInBounds_toArray, List.set_cons_zero, List.set_cons_succ]
  refine wpAnyH_ready (rs := [8]) (by kernel_rfl) (by simp) ?_
  refine AllReadyH.cons rfl (fun K hK => ?_) AllReadyH.nil
  clear hHeld
  go_simp
  have z0 : ((v2.setCell ⟨w.heap.size + 1, 0, none⟩ (.slice pp bw.length qq)).setCell ⟨w.heap.size + 1, 1, none⟩ (.int .i64 bb)).cell? ⟨w.heap.size + 1, 0, none⟩ = some (.slice pp bw.length qq) := (World.cell?_setCell_other _ _ _ _ (by simp)).trans (World.cell?_setCell_same _ _ _ x1_0)
  have z1 : ((v2.setCell ⟨w.heap.size + 1, 0, none⟩ (.slice pp bw.length qq)).setCell ⟨w.heap.size + 1, 1, none⟩ (.int .i64 bb)).cell? ⟨w.heap.size + 1, 1, none⟩ = some (.int .i64 bb) := World.cell?_setCell_same _ _ _ ((World.cell?_setCell_other _ _ _ _ (by simp)).trans x1_1)
  have y0_0 : ((v2.setCell ⟨w.heap.size + 1, 0, none⟩ (.slice pp bw.length qq)).setCell ⟨w.heap.size + 1, 1, none⟩ (.int .i64 bb)).cell? ⟨w.heap.size, 0, none⟩ = some (.int .i64 (n : Nat)) := (World.cell?_setCell_other _ _ _ _ (by simp)).trans ((World.cell?_setCell_other _ _ _ _ (by simp)).trans x0_0)
  have y0_1 : ((v2.setCell ⟨w.heap.size + 1, 0, none⟩ (.slice pp bw.length qq)).setCell ⟨w.heap.size + 1, 1, none⟩ (.int .i64 bb)).cell? ⟨w.heap.size, 1, none⟩ = some (.slice a ls.length c) := (World.cell?_setCell_other _ _ _ _ (by simp)).trans ((World.cell?_setCell_other _ _ _ _ (by simp)).trans x0_1)
  have y1c : ((v2.setCell ⟨w.heap.size + 1, 0, none⟩ (.slice pp bw.length qq)).setCell ⟨w.heap.size + 1, 1, none⟩ (.int .i64 bb)).cell? ⟨b1, off1, none⟩ = some (.slice pr T.length qr) := (World.cell?_of_block (Below.heap_setCell _ _ _ _ (show b1 ≠ w.heap.size + 1 by omega))).trans ((World.cell?_of_block (Below.heap_setCell _ _ _ _ (show b1 ≠ w.heap.size + 1 by omega))).trans hct)
  refine hK.out _ _ ?_ (fun hHeld => ?_)
  · exact ⟨y0_0, y0_1, y1c⟩
  clear hK K
  try simp only [List.getElem_toArray, List.getElem_cons_succ, List.getElem_cons_zero, Act.put, List.setIfInBounds_toArray, List.set_cons_zero, List.set_cons_succ]
  refine wpAnyH_take (i := 9) (v := ?_) rfl (by kernel_rfl) (by kernel_rfl) (by kernel_rfl) (fun _ _ _ h => h) (Or.inl ⟨by rfl, ?_⟩) (by assumption) ?_
  rotate_left
  · intro w9 hSw; (try dsimp only at hSw); go_simp; try with_reducible rfl
  try simp only [List.getElem_toArray, List.getElem_cons_succ, List.getElem_cons_zero, Act.put, List.setIfInBounds_toArray, List.set_cons_zero, List.set_cons_succ]
  refine wpAnyH_done (by kernel_rfl) ?_ _
  refine NoPanic.normal ?_
  clear hHeld
  go_wp2_with fail
  refine bodyPost_ret (v := .tuple #[.agg #[.slice pp bw.length qq, .int .i64 bb], .bool ok]) (by simp [results, Try.results26, go_sem, z0, z1]) rfl ⟨_, rfl, ?_, ?_⟩
  · simp only [size_set]
    exact ((HOP.out.set (a := ⟨w.heap.size + 1, 0, none⟩) (by show w.heap.size + 1 < _; omega) _).set (a := ⟨w.heap.size + 1, 1, none⟩) (by show w.heap.size + 1 < _; omega) _).mono (by omega) (Nat.le_refl _)
  · exact (HBf.out.setCell (by simp) _).setCell (by simp) _
end Go.Proofs.Ytoephhhofkmgjab.single
