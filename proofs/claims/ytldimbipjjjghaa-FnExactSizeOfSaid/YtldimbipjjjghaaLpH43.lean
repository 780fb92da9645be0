/- Several texts in one. -/
import Derived.RangeFuncLeaves
import Derived.TacticsInMore
import Derived.Test.YtldimbipjjjghaaLpH42
import Derived.Test.YtldimbipjjjghaaLpH9
import Derived.Test.YtldimbipjjjghaaLpH4
namespace Go.Proofs.Ytldimbipjjjghaa.leastn
open Go.RowKit own pp nums tab told least5 wts parts leasti leasts has nums findp
set_option linter.unusedVariables false
set_option linter.unusedSimpArgs false

set_option maxRecDepth 100000 in
set_option maxHeartbeats 4000000 in
theorem spec_no1 (n : Int) (a : Option Addr) (zs : List Int) (c : Nat) (w : World) (hr : ints.Reads .i64 w a zs) (hk : tab.tabB n zs = false) :
    Calls Try.prog 41 #[.int .i64 n, .slice a zs.length c] w ((RetPB [] 0 false w)) := by
  have HT := Lib.hid (fun (W : World) (hb : Below w.heap.size w W) => tab.spec_tab n a zs c W (hr.below hb) false (Lib.hid hk))
  clear hr hk
  go_enter Try.func41, Try.ntmps41
  go_wp2_with fail
  have x0 : (w.alloc (.cells #[.slice none 0 0, .int .i64 0] 28)).cell? ⟨w.heap.size, 0, none⟩ = some (.slice none 0 0) := cell_new _ _ _ (by simp) rfl
  have x1 : (w.alloc (.cells #[.slice none 0 0, .int .i64 0] 28)).cell? ⟨w.heap.size, 1, none⟩ = some (.int .i64 0) := cell_new _ _ _ (by simp) rfl
  have xf0 : (w.alloc (.cells #[.slice none 0 0, .int .i64 0] 28)).frozen? ⟨w.heap.size, 0, none⟩ = false := fro_new _ _ _ rfl
  have xf1 : (w.alloc (.cells #[.slice none 0 0, .int .i64 0] 28)).frozen? ⟨w.heap.size, 1, none⟩ = false := fro_new _ _ _ rfl
  have hP0 : (w.alloc (.cells #[.slice none 0 0, .int .i64 0] 28)).heap[w.heap.size]? = some (.cells #[.slice none 0 0, .int .i64 0] 28) := World.alloc_heap_new w _
  have HB0 := Lib.hid (below_alloc w (.cells #[.slice none 0 0, .int .i64 0] 28))
  have hs0 : (w.alloc (.cells #[.slice none 0 0, .int .i64 0] 28)).heap.size = w.heap.size + 1 := by simp
  generalize hw : (w.alloc (.cells #[.slice none 0 0, .int .i64 0] 28)) = w0 at *
  clear hw
  refine (HT.out w0 HB0.out).mono ?_
  rintro e w' ⟨rfl, m, rfl⟩
  obtain ⟨w2, hw2⟩ : ∃ w2 : World, w2 = w0.drewN m := ⟨_, rfl⟩
  have hb2 : Below w0.heap.size w0 w2 := by rw [hw2]; exact ints.below_drewN (Below.refl _ _) m
  rw [← hw2]
  clear hw2
  have HPL := Lib.hid ((hb2.block _ (by omega)).trans hP0)
  have y0 := cell_below hb2 x0 (by omega)
  have y1 := cell_below hb2 x1 (by omega)
  have yf0 := fro_below hb2 xf0 (by omega)
  have yf1 := fro_below hb2 xf1 (by omega)
  have HBX := Lib.hid (HB0.out.trans (hb2.mono HB0.out.size))
  have hs2 := hb2.size
  clear x0 x1 xf0 xf1 hP0 hb2
  go_wp2_with fail
  have hp := set_plane (v' := .slice none 0 0) (b' := .int .i64 0) HPL.out
  have q0 : ((w2.setCell ⟨w.heap.size, 0, none⟩ (.slice none 0 0)).setCell ⟨w.heap.size, 1, none⟩ (.int .i64 0)).cell? ⟨w.heap.size, 0, none⟩ = some (.slice none 0 0) := by simp [World.cell?, hp]
  have q1 : ((w2.setCell ⟨w.heap.size, 0, none⟩ (.slice none 0 0)).setCell ⟨w.heap.size, 1, none⟩ (.int .i64 0)).cell? ⟨w.heap.size, 1, none⟩ = some (.int .i64 0) := by simp [World.cell?, hp]
  refine bodyPost_ret (v := .tuple #[.agg #[.slice none 0 0, .int .i64 0], .bool false]) (by simp [results, Try.results41, go_sem, q0, q1]) rfl ⟨.slice none 0 0, rfl, OwnI.nil _ _ _, (HBX.out.setCell (Nat.le_refl _) _).setCell (Nat.le_refl _) _⟩
set_option maxRecDepth 100000 in
set_option maxHeartbeats 4000000 in
theorem spec_no2 (a : Option Addr) (zs : List Int) (c : Nat) (w : World) (hr : ints.Reads .i64 w a zs) (hk : tab.tabB 0 zs = true) :
    Calls Try.prog 41 #[.int .i64 0, .slice a zs.length c] w ((RetPB [] 0 false w)) := by
  have HT := Lib.hid (fun (W : World) (hb : Below w.heap.size w W) => tab.spec_tab 0 a zs c W (hr.below hb) true (Lib.hid hk))
  clear hr hk
  go_enter Try.func41, Try.ntmps41
  go_wp2_with fail
  have x0 : (w.alloc (.cells #[.slice none 0 0, .int .i64 0] 28)).cell? ⟨w.heap.size, 0, none⟩ = some (.slice none 0 0) := cell_new _ _ _ (by simp) rfl
  have x1 : (w.alloc (.cells #[.slice none 0 0, .int .i64 0] 28)).cell? ⟨w.heap.size, 1, none⟩ = some (.int .i64 0) := cell_new _ _ _ (by simp) rfl
  have xf0 : (w.alloc (.cells #[.slice none 0 0, .int .i64 0] 28)).frozen? ⟨w.heap.size, 0, none⟩ = false := fro_new _ _ _ rfl
  have xf1 : (w.alloc (.cells #[.slice none 0 0, .int .i64 0] 28)).frozen? ⟨w.heap.size, 1, none⟩ = false := fro_new _ _ _ rfl
  have hP0 : (w.alloc (.cells #[.slice none 0 0, .int .i64 0] 28)).heap[w.heap.size]? = some (.cells #[.slice none 0 0, .int .i64 0] 28) := World.alloc_heap_new w _
  have HB0 := Lib.hid (below_alloc w (.cells #[.slice none 0 0, .int .i64 0] 28))
  have hs0 : (w.alloc (.cells #[.slice none 0 0, .int .i64 0] 28)).heap.size = w.heap.size + 1 := by simp
  generalize hw : (w.alloc (.cells #[.slice none 0 0, .int .i64 0] 28)) = w0 at *
  clear hw
  refine (HT.out w0 HB0.out).mono ?_
  rintro e w' ⟨rfl, m, rfl⟩
  obtain ⟨w2, hw2⟩ : ∃ w2 : World, w2 = w0.drewN m := ⟨_, rfl⟩
  have hb2 : Below w0.heap.size w0 w2 := by rw [hw2]; exact ints.below_drewN (Below.refl _ _) m
  rw [← hw2]
  clear hw2
  have HPL := Lib.hid ((hb2.block _ (by omega)).trans hP0)
  have y0 := cell_below hb2 x0 (by omega)
  have y1 := cell_below hb2 x1 (by omega)
  have yf0 := fro_below hb2 xf0 (by omega)
  have yf1 := fro_below hb2 xf1 (by omega)
  have HBX := Lib.hid (HB0.out.trans (hb2.mono HB0.out.size))
  have hs2 := hb2.size
  clear x0 x1 xf0 xf1 hP0 hb2
  go_wp2_with fail
  have hp := set_plane (v' := .slice none 0 0) (b' := .int .i64 0) HPL.out
  have q0 : ((w2.setCell ⟨w.heap.size, 0, none⟩ (.slice none 0 0)).setCell ⟨w.heap.size, 1, none⟩ (.int .i64 0)).cell? ⟨w.heap.size, 0, none⟩ = some (.slice none 0 0) := by simp [World.cell?, hp]
  have q1 : ((w2.setCell ⟨w.heap.size, 0, none⟩ (.slice none 0 0)).setCell ⟨w.heap.size, 1, none⟩ (.int .i64 0)).cell? ⟨w.heap.size, 1, none⟩ = some (.int .i64 0) := by simp [World.cell?, hp]
  refine bodyPost_ret (v := .tuple #[.agg #[.slice none 0 0, .int .i64 0], .bool false]) (by simp [results, Try.results41, go_sem, q0, q1]) rfl ⟨.slice none 0 0, rfl, OwnI.nil _ _ _, (HBX.out.setCell (Nat.le_refl _) _).setCell (Nat.le_refl _) _⟩
set_option maxRecDepth 100000 in
set_option maxHeartbeats 4000000 in
theorem spec_yes (n : Nat) (a : Option Addr) (zs : List Int) (c : Nat) (w : World) (hr : ints.Reads .i64 w a zs) (hk : tab.tabB n zs = true) (h1 : 1 ≤ n) :
    Calls Try.prog 41 #[.int .i64 n, .slice a zs.length c] w ((RetPB (bs n zs (wts n) (wts n).length).1 (bv n zs (wts n).length) (bs n zs (wts n) (wts n).length).2 w)) := by
  have HT := Lib.hid (fun (W : World) (hb : Below w.heap.size w W) => tab.spec_tab n a zs c W (hr.below hb) true (Lib.hid hk))
  have HS := Lib.hid (fun (W : World) (hb : Below w.heap.size w W) => spec_plane n a zs c W (hr.below hb) hk)
  have hn0 : ¬ ((n : Int) = 0) := by omega
  clear hr hk
  generalize bv n zs (wts n).length = bb at *
  generalize (bs n zs (wts n) (wts n).length).1 = bw at *
  generalize (bs n zs (wts n) (wts n).length).2 = ok at *
  go_enter Try.func41, Try.ntmps41
  go_wp2_with fail
  have x0 : (w.alloc (.cells #[.slice none 0 0, .int .i64 0] 28)).cell? ⟨w.heap.size, 0, none⟩ = some (.slice none 0 0) := cell_new _ _ _ (by simp) rfl
  have x1 : (w.alloc (.cells #[.slice none 0 0, .int .i64 0] 28)).cell? ⟨w.heap.size, 1, none⟩ = some (.int .i64 0) := cell_new _ _ _ (by simp) rfl
  have xf0 : (w.alloc (.cells #[.slice none 0 0, .int .i64 0] 28)).frozen? ⟨w.heap.size, 0, none⟩ = false := fro_new _ _ _ rfl
  have xf1 : (w.alloc (.cells #[.slice none 0 0, .int .i64 0] 28)).frozen? ⟨w.heap.size, 1, none⟩ = false := fro_new _ _ _ rfl
  have hP0 : (w.alloc (.cells #[.slice none 0 0, .int .i64 0] 28)).heap[w.heap.size]? = some (.cells #[.slice none 0 0, .int .i64 0] 28) := World.alloc_heap_new w _
  have HB0 := Lib.hid (below_alloc w (.cells #[.slice none 0 0, .int .i64 0] 28))
  have hs0 : (w.alloc (.cells #[.slice none 0 0, .int .i64 0] 28)).heap.size = w.heap.size + 1 := by simp
  generalize hw : (w.alloc (.cells #[.slice none 0 0, .int .i64 0] 28)) = w0 at *
  clear hw
  refine (HT.out w0 HB0.out).mono ?_
  rintro e w' ⟨rfl, m, rfl⟩
  obtain ⟨w2, hw2⟩ : ∃ w2 : World, w2 = w0.drewN m := ⟨_, rfl⟩
  have hb2 : Below w0.heap.size w0 w2 := by rw [hw2]; exact ints.below_drewN (Below.refl _ _) m
  rw [← hw2]
  clear hw2
  have HPL := Lib.hid ((hb2.block _ (by omega)).trans hP0)
  have y0 := cell_below hb2 x0 (by omega)
  have y1 := cell_below hb2 x1 (by omega)
  have yf0 := fro_below hb2 xf0 (by omega)
  have yf1 := fro_below hb2 xf1 (by omega)
  have HBX := Lib.hid (HB0.out.trans (hb2.mono HB0.out.size))
  have hs2 := hb2.size
  clear x0 x1 xf0 xf1 hP0 hb2
  go_wp2_with fail
  refine (HS.out w2 HBX.out).mono ?_
  rintro e w3 ⟨v, rfl, hov, hb3⟩
  obtain ⟨vp, vq, rfl, _, _, _⟩ := hov.slice
  have HOV := Lib.hid hov
  have HPL3 := Lib.hid ((hb3.block _ (by omega)).trans HPL.out)
  have z0 := cell_below hb3 y0 (by omega)
  have z1 := cell_below hb3 y1 (by omega)
  have zf0 := fro_below hb3 yf0 (by omega)
  have zf1 := fro_below hb3 yf1 (by omega)
  have HBX3 := Lib.hid (HBX.out.trans (hb3.mono HBX.out.size))
  clear hb3 y0 y1 yf0 yf1 HPL HBX hov
  have HPL := HPL3
  have HBX := HBX3
  go_wp2_with fail
  have hp := set_plane (v' := .slice vp bw.length vq) (b' := .int .i64 bb) HPL.out
  have q0 : ((w3.setCell ⟨w.heap.size, 0, none⟩ (.slice vp bw.length vq)).setCell ⟨w.heap.size, 1, none⟩ (.int .i64 bb)).cell? ⟨w.heap.size, 0, none⟩ = some (.slice vp bw.length vq) := by simp [World.cell?, hp]
  have q1 : ((w3.setCell ⟨w.heap.size, 0, none⟩ (.slice vp bw.length vq)).setCell ⟨w.heap.size, 1, none⟩ (.int .i64 bb)).cell? ⟨w.heap.size, 1, none⟩ = some (.int .i64 bb) := by simp [World.cell?, hp]
  refine bodyPost_ret (v := .tuple #[.agg #[.slice vp bw.length vq, .int .i64 bb], .bool ok]) (by simp [results, Try.results41, go_sem, q0, q1]) rfl ⟨.slice vp bw.length vq, rfl, (by
      refine (HOV.out.block (fun g hg => ?_)).mono (by omega) (by simp [World.setCell])
      have hg' := (HOV.out.lt hg).1
      exact (Below.heap_setCell _ _ _ _ (show g ≠ w.heap.size by omega)).trans (Below.heap_setCell _ _ _ _ (show g ≠ w.heap.size by omega))), (HBX.out.setCell (Nat.le_refl _) _).setCell (Nat.le_refl _) _⟩
open Go Go.RowKit Go.Shelf own in
set_option maxRecDepth 100000 in
set_option maxHeartbeats 4000000 in
theorem impl_no (n : Int) (a : Option Addr) (zs : List Int) (c : Nat) (w : World)
    (HT : Hid (∀ W, Below w.heap.size w W → Calls Try.prog 56 #[.int .i64 n, .slice a zs.length c] W (RetSB [] [] false W)))
    (HI : Hid (∀ W, Below w.heap.size w W → Calls Try.prog 112 #[.int .i64 n, .slice a zs.length c] W (fun e W' => ∃ b ok : Bool, e = .returned (.tuple #[.bool b, .bool ok]) ∧ Below W.heap.size W W'))) :
    Calls Try.prog 42 #[.int .i64 n, .slice a zs.length c] w (RetPB [] 0 false w) := by
  refine (callsIn_wide (n := 8)).1 ?_
  refine callsIn_of_wp_marks Try.func42 rfl trivial ?_ rfl
  simp only [Try.ntmps42, List.size_toArray, List.length_cons, List.length_nil, Nat.reduceAdd, Nat.reduceSub, Array.replicate_succ, Array.replicate_zero, List.push_toArray, List.append_toArray, List.nil_append, List.cons_append]
  gi_wp2
  refine ⟨trivial, ?_⟩
  refine (callsIn_wide.2 (HT.out _ (below_alloc w _))).mono ?_
  rintro e w1 ⟨p1, l1, rfl, hos, hb1⟩
  obtain ⟨pa, pc, rfl, _, _, _⟩ := hos.grid.slice
  obtain ⟨la, lc, rfl, _, _, _⟩ := hos.ints.slice
  have bR1 : w1.heap[w.heap.size]? = some (.cells #[.slice none 0 0, .int .i64 0] 28) := (hb1.block _ (by simp)).trans (World.alloc_heap_new w _)
  have HR1 := Lib.hid bR1
  have HB1 := Lib.hid ((below_alloc w (.cells #[.slice none 0 0, .int .i64 0] 28)).trans (hb1.mono (by simp)))
  have hs1 : w.heap.size + 1 ≤ w1.heap.size := by have := hb1.size; rwa [World.size_alloc] at this
  clear hos bR1 hb1
  gi_wp2
  have HBa := Lib.hid (below_alloc w1 (.cells #[.slice pa ([] : List (List Int)).length pc, .slice la ([] : List Int).length lc] 31))
  refine ⟨trivial, ?_⟩
  refine (callsIn_wide.2 (HI.out _ (HB1.out.trans (HBa.out.mono HB1.out.size)))).mono ?_
  rintro e w2 ⟨b, ok, rfl, hb2⟩
  have hs2 : w1.heap.size ≤ w2.heap.size := by have := hb2.size; rw [World.size_alloc] at this; omega
  have HR2 := Lib.hid ((hb2.block _ (by rw [World.size_alloc]; omega)).trans ((HBa.out.block _ (by omega)).trans HR1.out))
  have HB2 := Lib.hid (HB1.out.trans ((HBa.out.trans (hb2.mono HBa.out.size)).mono HB1.out.size))
  have fR0 : w2.frozen? ⟨w.heap.size, 0, none⟩ = false := by simp [World.frozen?, HR2.out]
  have fR1 : w2.frozen? ⟨w.heap.size, 1, none⟩ = false := by simp [World.frozen?, HR2.out]
  have cR0 : w2.cell? ⟨w.heap.size, 0, none⟩ = some (.slice none 0 0) := by simp [World.cell?, HR2.out]
  have cR1 : w2.cell? ⟨w.heap.size, 1, none⟩ = some (.int .i64 0) := by simp [World.cell?, HR2.out]
  clear hb2 HBa
  gi_wp2
  have hp := set_plane (v' := .slice none 0 0) (b' := .int .i64 0) HR2.out
  have q0 : ((w2.setCell ⟨w.heap.size, 0, none⟩ (.slice none 0 0)).setCell ⟨w.heap.size, 1, none⟩ (.int .i64 0)).cell? ⟨w.heap.size, 0, none⟩ = some (.slice none 0 0) := by simp [World.cell?, hp]
  have q1 : ((w2.setCell ⟨w.heap.size, 0, none⟩ (.slice none 0 0)).setCell ⟨w.heap.size, 1, none⟩ (.int .i64 0)).cell? ⟨w.heap.size, 1, none⟩ = some (.int .i64 0) := by simp [World.cell?, hp]
  exact ⟨.tuple #[.agg #[.slice none 0 0, .int .i64 0], .bool false], by simp [results, Try.results42, go_sem, q0, q1], .slice none 0 0, rfl, OwnI.nil _ _ _, (HB2.out.setCell (Nat.le_refl _) _).setCell (Nat.le_refl _) _⟩
theorem impl_no1 (n : Int) (a : Option Addr) (zs : List Int) (c : Nat) (w : World) (hr : ints.Reads .i64 w a zs) (hk : tab.tabB n zs = false) :
    Calls Try.prog 42 #[.int .i64 n, .slice a zs.length c] w (RetPB [] 0 false w) :=
  impl_no n a zs c w (Lib.hid fun W hb => if h : n < 1 then tablesample.impl_lo n a zs c W (hr.below hb) h else tablesample.impl_no n a zs c W (hr.below hb) h (Lib.hid fun wa hra => tab.impl_tab n a zs c wa hra false (Lib.hid hk)))
    (Lib.hid fun W hb => (isthr.impl_no n a zs c W (hr.below hb) hk).mono fun e W' h => ⟨_, _, h.1, h.2⟩)
theorem impl_no2 (a : Option Addr) (zs : List Int) (c : Nat) (w : World) (hr : ints.Reads .i64 w a zs) (hk : tab.tabB 0 zs = true) :
    Calls Try.prog 42 #[.int .i64 0, .slice a zs.length c] w (RetPB [] 0 false w) :=
  impl_no 0 a zs c w (Lib.hid fun W hb => tablesample.impl_lo 0 a zs c W (hr.below hb) (by decide))
    (Lib.hid fun W hb => (isthr.impl_yes 0 a zs c W (hr.below hb) hk).mono fun e W' h => ⟨_, _, h.1, h.2⟩)
theorem impl_yes (n : Nat) (a : Option Addr) (zs : List Int) (c : Nat) (w : World) (hr : ints.Reads .i64 w a zs) (hk : tab.tabB n zs = true) (h1 : 1 ≤ n) :
    Calls Try.prog 42 #[.int .i64 n, .slice a zs.length c] w (RetPB (bs n zs (wts n) (wts n).length).1 (bv n zs (wts n).length) (bs n zs (wts n) (wts n).length).2 w) :=
  callsIn_wide.1 (least_in 8 (Nat.le_refl _) n a zs c w hr hk h1 (Lib.hid fun W hb => by rw [thr.thr_iff hk]; exact isthr.impl_yes n a zs c W (hr.below hb) hk))
theorem best_len (n : Nat) (zs : List Int) (hk : tab.tabB n zs = true) : (bs n zs (wts n) (wts n).length).1.length ≤ 4 := by
  obtain ⟨m0, he, h4, _⟩ := tab_nat hk
  rcases bs_row n zs (wts n) (wts n).length (Nat.le_refl _) with e | e
  · rw [e]; simp
  · rw [(wts_row e).1]; omega
end Go.Proofs.Ytldimbipjjjghaa.leastn

namespace Go.Proofs.Ytldimbipjjjghaa.sizeofw
open Go.RowKit own pp nums tab told least5 wts parts leasti leasts leastn has nums findp sizei
set_option linter.unusedVariables false
set_option linter.unusedSimpArgs false

theorem best_ok (n : Nat) (zs : List Int) (hk : tab.tabB n zs = true) : (bs n zs (wts n) (wts n).length).1.length ≤ 4 ∧ W3 (bs n zs (wts n) (wts n).length).1 := by
  refine ⟨best_len n zs hk, ?_⟩
  rcases bs_row n zs (wts n) (wts n).length (Nat.le_refl _) with e | e
  · rw [e]; exact w3_nil
  · exact w3_row e
theorem size_bd {ws : List Int} (h : W3 ws) (h4 : ws.length ≤ 4) : 0 ≤ size ws ∧ size ws ≤ 12 := by
  have := sz_bd h ws.length (Nat.le_refl _)
  unfold size
  omega
theorem zero (zs : List Int) (hk : tab.tabB 0 zs = true) : bs 0 zs (wts 0) (wts 0).length = ([], true) := by
  have hk' : tab.tabB ((0 : Nat) : Int) zs = true := hk
  obtain ⟨m0, he, h4, hp, _, _⟩ := tab_nat hk'
  obtain rfl : m0 = 0 := by omega
  have h6 := (tie.tie (ws := []) hk' rfl w3_nil zs.length (Nat.le_refl _)).2.2.2.2.2
  rw [hp] at h6
  have hP : partsB 0 zs [] = true := by
    unfold partsB
    rw [hp]
    generalize st 0 zs [] (2 ^ 0) = s at *
    have : s.o + s.x = 1 := by simpa using h6
    by_cases e : s.o = 0
    · rw [decide_eq_true e]; rfl
    · rw [decide_eq_true (show s.x = 0 by omega)]; simp
  show (if _ ∧ _ then _ else if partsB 0 zs [] = true then _ else _) = _
  rw [if_neg (by simp [bs]), if_pos hP]
  rfl
set_option maxRecDepth 100000 in
set_option maxHeartbeats 4000000 in
theorem spec_no (n : Int) (a : Option Addr) (zs : List Int) (c : Nat) (w : World) (hr : ints.Reads .i64 w a zs) (hk : tab.tabB n zs = false) :
    Calls Try.prog 43 #[.int .i64 n, .slice a zs.length c] w ((RetNB 0 false w)) := by
  have HT := Lib.hid (fun (W : World) (hb : Below w.heap.size w W) => tab.spec_tab n a zs c W (hr.below hb) false (Lib.hid hk))
  clear hr hk
  go_enter Try.func43, Try.ntmps43
  go_wp2_with fail
  refine (HT.out _ (Below.refl _ _)).mono ?_
  rintro e w' ⟨rfl, m, rfl⟩
  go_wp2_with fail
  go_ret2
  exact ⟨rfl, ints.below_drewN (Below.refl _ _) _⟩
set_option maxRecDepth 100000 in
set_option maxHeartbeats 4000000 in
theorem spec_yes (n : Nat) (a : Option Addr) (zs : List Int) (c : Nat) (w : World) (hr : ints.Reads .i64 w a zs) (hk : tab.tabB n zs = true) :
    Calls Try.prog 43 #[.int .i64 n, .slice a zs.length c] w ((RetNB (size (bs n zs (wts n) (wts n).length).1) (bs n zs (wts n) (wts n).length).2 w)) := by
  have HT := Lib.hid (fun (W : World) (hb : Below w.heap.size w W) => tab.spec_tab n a zs c W (hr.below hb) true (Lib.hid hk))
  have HL := Lib.hid (fun (W : World) (hb : Below w.heap.size w W) => spec_least n a zs c W (hr.below hb) hk)
  obtain ⟨hb4, hbW⟩ := best_ok n zs hk
  have HB4 := Lib.hid (And.intro hb4 hbW)
  clear hb4 hbW
  clear hr hk
  generalize (bs n zs (wts n) (wts n).length).1 = bw at *
  generalize (bs n zs (wts n) (wts n).length).2 = ok at *
  go_enter Try.func43, Try.ntmps43
  go_wp2_with fail
  refine (HT.out _ (Below.refl _ _)).mono ?_
  rintro e w' ⟨rfl, m, rfl⟩
  obtain ⟨wp, hwp⟩ : ∃ wp : World, wp = w.drewN m := ⟨_, rfl⟩
  have HBp := Lib.hid (show Below w.heap.size w wp by rw [hwp]; exact ints.below_drewN (Below.refl _ _) m)
  rw [← hwp]
  clear hwp
  go_wp2_with fail
  refine (HL.out wp HBp.out).mono ?_
  rintro e w1 ⟨v, rfl, hov, hb1⟩
  obtain ⟨vp, vq, rfl, hvr, _, _⟩ := hov.slice
  have HC := Lib.hid (spec_size vp bw vq w1 hvr HB4.out.1 HB4.out.2)
  have HB1 := Lib.hid (HBp.out.trans (hb1.mono HBp.out.size))
  clear hov hb1 hvr
  generalize size bw = sz at *
  go_wp2_with fail
  refine HC.out.mono ?_
  rintro e w' ⟨rfl, m2, rfl⟩
  have HB2 := Lib.hid (ints.below_drewN HB1.out m2)
  generalize w1.drewN m2 = w2 at *
  go_wp2_with fail
  go_ret2
  exact ⟨rfl, HB2.out⟩
set_option maxRecDepth 100000 in
set_option maxHeartbeats 4000000 in
theorem impl_zero (a : Option Addr) (zs : List Int) (c : Nat) (w : World) (hr : ints.Reads .i64 w a zs) (ok : Bool) (hk : tab.tabB 0 zs = ok) :
    Calls Try.prog 44 #[.int .i64 0, .slice a zs.length c] w ((RetNB 0 ok w)) := by
  have HT := Lib.hid (fun (W : World) (hb : Below w.heap.size w W) => tab.impl_tab 0 a zs c W (hr.below hb) ok (Lib.hid hk))
  clear hr hk
  go_enter Try.func44, Try.ntmps44
  go_wp2_with fail
  refine (HT.out _ (Below.refl _ _)).mono ?_
  rintro e w' ⟨rfl, m, rfl⟩
  go_wp2_with fail
  go_ret2
  exact ⟨rfl, ints.below_drewN (Below.refl _ _) _⟩
set_option maxRecDepth 100000 in
set_option maxHeartbeats 4000000 in
theorem impl_big (n : Int) (hn0 : ¬ n = 0) (a : Option Addr) (zs : List Int) (c : Nat) (w : World) (bw : List Int) (bb : Int) (ok : Bool) (HB4 : Hid (bw.length ≤ 4 ∧ W3 bw)) (HL : Hid (∀ W, Below w.heap.size w W → Calls Try.prog 42 #[.int .i64 n, .slice a zs.length c] W (RetPB bw bb ok W))) :
    Calls Try.prog 44 #[.int .i64 n, .slice a zs.length c] w ((RetNB (size bw) ok w)) := by
  have hn9 : ¬ (n = 0) := hn0
  go_enter Try.func44, Try.ntmps44
  go_wp2_with fail
  refine (HL.out w (Below.refl _ _)).mono ?_
  rintro e w1 ⟨v, rfl, hov, hb1⟩
  obtain ⟨vp, vq, rfl, hvr, _, _⟩ := hov.slice
  have xf0 : (w1.alloc (.cells #[.slice none 0 0, .int .i64 0] 28)).frozen? ⟨w1.heap.size, 0, none⟩ = false := fro_new _ _ _ rfl
  have xf1 : (w1.alloc (.cells #[.slice none 0 0, .int .i64 0] 28)).frozen? ⟨w1.heap.size, 1, none⟩ = false := fro_new _ _ _ rfl
  have xc0 : (w1.alloc (.cells #[.slice none 0 0, .int .i64 0] 28)).cell? ⟨w1.heap.size, 0, none⟩ = some (.slice none 0 0) := cell_new _ _ _ rfl rfl
  have xc1 : (w1.alloc (.cells #[.slice none 0 0, .int .i64 0] 28)).cell? ⟨w1.heap.size, 1, none⟩ = some (.int .i64 0) := cell_new _ _ _ rfl rfl
  have y0 : (w1.alloc (.cells #[.slice vp bw.length vq, .int .i64 bb] 28)).cell? ⟨w1.heap.size, 0, none⟩ = some (.slice vp bw.length vq) := cell_new _ _ _ rfl rfl
  have HC := Lib.hid (fun (W : World) (hb : Below w1.heap.size w1 W) => impl_size vp bw vq W (hvr.below hb) HB4.out.1 HB4.out.2)
  have HB1 := Lib.hid hb1
  have HA := Lib.hid (below_alloc w1 (.cells #[.slice vp bw.length vq, .int .i64 bb] 28))
  clear hov hb1 hvr
  generalize size bw = sz at *
  go_wp2_with fail
  refine (HC.out _ HA.out).mono ?_
  rintro e w2 ⟨rfl, hb2⟩
  have HB2 := Lib.hid (HB1.out.trans ((HA.out.trans (hb2.mono HA.out.size)).mono HB1.out.size))
  clear hb2
  go_wp2_with fail
  go_ret2
  exact ⟨rfl, HB2.out⟩
theorem impl_no (n : Int) (a : Option Addr) (zs : List Int) (c : Nat) (w : World) (hr : ints.Reads .i64 w a zs) (hk : tab.tabB n zs = false) :
    Calls Try.prog 44 #[.int .i64 n, .slice a zs.length c] w (RetNB 0 false w) := by
  by_cases h : n = 0
  · subst h; exact impl_zero a zs c w hr false hk
  · exact impl_big n h a zs c w [] 0 false (Lib.hid ⟨by simp, w3_nil⟩) (Lib.hid fun W hb => impl_no1 n a zs c W (hr.below hb) hk)
theorem impl_yes (n : Nat) (a : Option Addr) (zs : List Int) (c : Nat) (w : World) (hr : ints.Reads .i64 w a zs) (hk : tab.tabB n zs = true) :
    Calls Try.prog 44 #[.int .i64 n, .slice a zs.length c] w (RetNB (size (bs n zs (wts n) (wts n).length).1) (bs n zs (wts n) (wts n).length).2 w) := by
  rcases Nat.eq_zero_or_pos n with rfl | h1
  · rw [zero zs hk]; exact impl_zero a zs c w hr true hk
  · exact impl_big n (by omega) a zs c w _ _ _ (Lib.hid (best_ok n zs hk)) (Lib.hid fun W hb => leastn.impl_yes n a zs c W (hr.below hb) hk h1)
end Go.Proofs.Ytldimbipjjjghaa.sizeofw

namespace Go.Proofs.Ytldimbipjjjghaa.fnExactSizeOfl
open Go.RowKit own pp
set_option linter.unusedVariables false

theorem law (n0 : Int) (a1 : Option Addr) (zs1 : List Int) (c1 : Nat) (w : World) (hn0 : (Lit.int .i64 n0).wf = true) (hr1 : ints.Reads .i64 w a1 zs1) (hf1 : ∀ i, i < zs1.length → -9223372036854775808 ≤ zs1.getD i 0 ∧ zs1.getD i 0 ≤ 9223372036854775807) (hl1 : zs1.length ≤ maxLen) :
    Calls Try.prog 10 #[.int .i64 n0, .slice a1 zs1.length c1] w fun e w' => e = .returned (.bool true) ∧ Below w.heap.size w w' := by
  unfold maxLen at hl1 
  by_cases hs : zs1.length ≤ 1048576
  · have hs0 := hs
    cases hk : tab.tabB n0 zs1
    · exact fnExactSizeOfw.law_small n0 a1 zs1 c1 0 false w hr1 hs0  (Lib.hid fun _ _ _ h => sizeofw.spec_no _ _ _ _ _ h hk) (Lib.hid fun _ _ _ h => sizeofw.impl_no _ _ _ _ _ h hk)
    obtain ⟨m0, rfl, _, _, h16, _⟩ := tab.tab_nat hk
    exact fnExactSizeOfw.law_small (m0 : Int) a1 zs1 c1 (parts.size (least5.bs m0 zs1 (wts.wts m0) (wts.wts m0).length).1) (least5.bs m0 zs1 (wts.wts m0) (wts.wts m0).length).2 w hr1 hs0  (Lib.hid fun _ _ _ h => sizeofw.spec_yes _ _ _ _ _ h hk) (Lib.hid fun _ _ _ h => sizeofw.impl_yes _ _ _ _ _ h hk)
  · exact fnExactSizeOfw.law_big n0 a1 zs1 c1 w hr1 hl1 hs
end Go.Proofs.Ytldimbipjjjghaa.fnExactSizeOfl
