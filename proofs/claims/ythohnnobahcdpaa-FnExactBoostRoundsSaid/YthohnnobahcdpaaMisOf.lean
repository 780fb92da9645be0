/- The walks of the model's and the program's MistakesOf and FitsSample. -/
import Derived.Test.YthohnnobahcdpaaPlaces
namespace Go.Proofs.Ythohnnobahcdpaa.misof
open Go.RowKit own pp nums samplesv samplest planes dots both sides mistakes places
set_option linter.unusedVariables false
set_option linter.unusedSimpArgs false

theorem both_len {rows : List (List Int)} {zs ws : List Int} {b : Int} (h : bothB rows zs ws b = true) : zs.length = rows.length := ((sampleB_iff _ _).1 ((bothB_iff _ _ _ _).1 h).1).2.1
theorem beq_len (l : List Int) : ((l.length : Int) == 0) = decide (l = []) := by
  cases l <;> simp <;> omega
theorem places_congr {p q : Nat → Bool} {n : Nat} (h : ∀ k, k < n → p k = q k) : placesTo p n = placesTo q n := by
  unfold placesTo
  rw [List.filter_congr (fun x hx => h x (List.mem_range.1 hx))]
theorem places_mis (rows : List (List Int)) (zs ws : List Int) (b : Int) : placesTo (fun k => (rows.map (side ws b)).getD k 0 != zs.getD k 0) rows.length = misTo rows zs ws b rows.length := by
  refine places_congr fun k hk => ?_
  have e : (rows.map (side ws b)).getD k 0 = side ws b (rows.getD k []) := by
    rw [List.getD_eq_getElem?_getD, List.getD_eq_getElem?_getD, List.getElem?_map, List.getElem?_eq_getElem hk]; rfl
  unfold isM
  rw [← e]

set_option maxHeartbeats 1000000 in
theorem impl_no (a : Option Addr) (rows : List (List Int)) (c : Nat) (a' : Option Addr) (zs : List Int) (c' : Nat) (p : Option Addr) (ws : List Int) (q : Nat) (b : Int) (w : World) (hr : grid.Reads w a rows) (hq : ints.Reads .i64 w a' zs) (hp : ints.Reads .i64 w p ws) (hn : rows.length ≤ 1048576) (hz : zs.length ≤ 1048576) (hm : ∀ r ∈ rows, r.length ≤ 1048576) (hk : ws.length ≤ 1048576) (h : Hid (bothB rows zs ws b = false)) :
    Calls Try.prog 84 #[.agg #[.slice a rows.length c, .slice a' zs.length c'], .agg #[.slice p ws.length q, .int .i64 b]] w (RetIB [] false w) := by
  have Hhr := Lib.hid hr
  have Hhq := Lib.hid hq
  have Hhp := Lib.hid hp
  have Hhm := Lib.hid hm
  clear hr hq hp hm
  go_enter Try.func84, Try.ntmps84
  go_wp2_with fail
  have x0_0 : (w.alloc (.cells #[.slice a rows.length c, .slice a' zs.length c'] 38)).cell? ⟨w.heap.size, 0, none⟩ = some (.slice a rows.length c) := cell_new _ _ _ (by simp) rfl
  have x0_1 : (w.alloc (.cells #[.slice a rows.length c, .slice a' zs.length c'] 38)).cell? ⟨w.heap.size, 1, none⟩ = some (.slice a' zs.length c') := cell_new _ _ _ (by simp) rfl
  have HB0 := Lib.hid (below_alloc w (.cells #[.slice a rows.length c, .slice a' zs.length c'] 38))
  replace x0_0 := cell_old (.cells #[.slice p ws.length q, .int .i64 b] 27) x0_0
  replace x0_1 := cell_old (.cells #[.slice p ws.length q, .int .i64 b] 27) x0_1
  have x1_0 : ((w.alloc (.cells #[.slice a rows.length c, .slice a' zs.length c'] 38)).alloc (.cells #[.slice p ws.length q, .int .i64 b] 27)).cell? ⟨w.heap.size + 1, 0, none⟩ = some (.slice p ws.length q) := cell_new _ _ _ (by simp) rfl
  have x1_1 : ((w.alloc (.cells #[.slice a rows.length c, .slice a' zs.length c'] 38)).alloc (.cells #[.slice p ws.length q, .int .i64 b] 27)).cell? ⟨w.heap.size + 1, 1, none⟩ = some (.int .i64 b) := cell_new _ _ _ (by simp) rfl
  replace HB0 := Lib.hid (HB0.out.alloc (by simp) (.cells #[.slice p ws.length q, .int .i64 b] 27))
  have s0 : w.heap.size + 2 ≤ ((w.alloc (.cells #[.slice a rows.length c, .slice a' zs.length c'] 38)).alloc (.cells #[.slice p ws.length q, .int .i64 b] 27)).heap.size := by simp
  generalize hw : ((w.alloc (.cells #[.slice a rows.length c, .slice a' zs.length c'] 38)).alloc (.cells #[.slice p ws.length q, .int .i64 b] 27)) = w0 at *
  clear hw
  have n0_0 : w.heap.size < w0.heap.size := by omega
  have n0_1 : w.heap.size + 1 < w0.heap.size := by omega
  refine (sidesof.impl_no a rows c a' zs c' p ws q b _ (Hhr.out.below HB0.out) (Hhq.out.below HB0.out) (Hhp.out.below HB0.out) hn hz Hhm.out hk h).mono ?_
  rintro e w1 ⟨v, rfl, ho, hb⟩
  obtain ⟨vp, vc, rfl, _, _, _⟩ := ho.slice
  clear ho
  have s1 : w0.heap.size ≤ w1.heap.size := hb.size
  have n1_0 : w.heap.size < w1.heap.size := by omega
  have n1_1 : w.heap.size + 1 < w1.heap.size := by omega
  replace x0_0 := cell_below hb x0_0 (by omega)
  replace x0_1 := cell_below hb x0_1 (by omega)
  replace x1_0 := cell_below hb x1_0 (by omega)
  replace x1_1 := cell_below hb x1_1 (by omega)
  have HB1 := Lib.hid (HB0.out.trans (hb.mono (by omega)))
  clear hb
  go_wp2_with fail
  go_ret2
  have hh := ret_empty (W := w) (w1 := w1.alloc (.cells #[.slice vp 0 vc] 22)) (HB1.out.alloc HB1.out.size _)
  rw [show (w1.alloc (.cells #[.slice vp 0 vc] 22)).heap.size = w1.heap.size + 1 by simp] at hh
  exact hh
set_option maxRecDepth 100000 in
set_option maxHeartbeats 2000000 in
theorem impl_yes (a : Option Addr) (rows : List (List Int)) (c : Nat) (a' : Option Addr) (zs : List Int) (c' : Nat) (p : Option Addr) (ws : List Int) (q : Nat) (b : Int) (w : World) (hr : grid.Reads w a rows) (hq : ints.Reads .i64 w a' zs) (hp : ints.Reads .i64 w p ws) (hn : rows.length ≤ 1048576) (hz : zs.length ≤ 1048576) (hm : ∀ r ∈ rows, r.length ≤ 1048576) (hk : ws.length ≤ 1048576) (h : Hid (bothB rows zs ws b = true)) :
    Calls Try.prog 84 #[.agg #[.slice a rows.length c, .slice a' zs.length c'], .agg #[.slice p ws.length q, .int .i64 b]] w (RetIB (misTo rows zs ws b rows.length) true w) := by
  have Hhr := Lib.hid hr
  have Hhq := Lib.hid hq
  have Hhp := Lib.hid hp
  have Hhm := Lib.hid hm
  clear hr hq hp hm
  go_enter Try.func84, Try.ntmps84
  go_wp2_with fail
  have x0_0 : (w.alloc (.cells #[.slice a rows.length c, .slice a' zs.length c'] 38)).cell? ⟨w.heap.size, 0, none⟩ = some (.slice a rows.length c) := cell_new _ _ _ (by simp) rfl
  have x0_1 : (w.alloc (.cells #[.slice a rows.length c, .slice a' zs.length c'] 38)).cell? ⟨w.heap.size, 1, none⟩ = some (.slice a' zs.length c') := cell_new _ _ _ (by simp) rfl
  have HB0 := Lib.hid (below_alloc w (.cells #[.slice a rows.length c, .slice a' zs.length c'] 38))
  replace x0_0 := cell_old (.cells #[.slice p ws.length q, .int .i64 b] 27) x0_0
  replace x0_1 := cell_old (.cells #[.slice p ws.length q, .int .i64 b] 27) x0_1
  have x1_0 : ((w.alloc (.cells #[.slice a rows.length c, .slice a' zs.length c'] 38)).alloc (.cells #[.slice p ws.length q, .int .i64 b] 27)).cell? ⟨w.heap.size + 1, 0, none⟩ = some (.slice p ws.length q) := cell_new _ _ _ (by simp) rfl
  have x1_1 : ((w.alloc (.cells #[.slice a rows.length c, .slice a' zs.length c'] 38)).alloc (.cells #[.slice p ws.length q, .int .i64 b] 27)).cell? ⟨w.heap.size + 1, 1, none⟩ = some (.int .i64 b) := cell_new _ _ _ (by simp) rfl
  replace HB0 := Lib.hid (HB0.out.alloc (by simp) (.cells #[.slice p ws.length q, .int .i64 b] 27))
  have s0 : w.heap.size + 2 ≤ ((w.alloc (.cells #[.slice a rows.length c, .slice a' zs.length c'] 38)).alloc (.cells #[.slice p ws.length q, .int .i64 b] 27)).heap.size := by simp
  generalize hw : ((w.alloc (.cells #[.slice a rows.length c, .slice a' zs.length c'] 38)).alloc (.cells #[.slice p ws.length q, .int .i64 b] 27)) = w0 at *
  clear hw
  have n0_0 : w.heap.size < w0.heap.size := by omega
  have n0_1 : w.heap.size + 1 < w0.heap.size := by omega
  refine (sidesof.impl_yes a rows c a' zs c' p ws q b _ (Hhr.out.below HB0.out) (Hhq.out.below HB0.out) (Hhp.out.below HB0.out) hn hz Hhm.out hk h).mono ?_
  rintro e w1 ⟨v, rfl, ho, hb⟩
  obtain ⟨vp, vc, rfl, hvr, _, _⟩ := ho.slice
  have HVR := Lib.hid hvr
  clear ho hvr
  have s1 : w0.heap.size ≤ w1.heap.size := hb.size
  have n1_0 : w.heap.size < w1.heap.size := by omega
  have n1_1 : w.heap.size + 1 < w1.heap.size := by omega
  replace x0_0 := cell_below hb x0_0 (by omega)
  replace x0_1 := cell_below hb x0_1 (by omega)
  replace x1_0 := cell_below hb x1_0 (by omega)
  replace x1_1 := cell_below hb x1_1 (by omega)
  have HB1 := Lib.hid (HB0.out.trans (hb.mono (by omega)))
  clear hb
  go_wp2_with fail
  have hl := both_len h.out
  have y0 : (w1.alloc (.cells #[.slice vp rows.length vc] 22)).cell? ⟨w1.heap.size, 0, none⟩ = some (.slice vp rows.length vc) := cell_new _ _ _ rfl rfl
  have y1 := cell_old (.cells #[.slice vp rows.length vc] 22) x0_1
  have hba := below_alloc w1 (.cells #[.slice vp rows.length vc] 22)
  have HRs := Lib.hid (HVR.out.below hba)
  have HBa := Lib.hid (HB1.out.trans (hba.mono (by omega)))
  have hlen : (rows.map (side ws b)).length = rows.length := by simp
  have HC := Lib.hid (show ∀ (k : Nat) (wr : World), k < rows.length → Below (w1.alloc (.cells #[.slice vp rows.length vc] 22)).heap.size (w1.alloc (.cells #[.slice vp rows.length vc] 22)) wr → Calls Try.prog 121 #[.int .i64 k, .pointer (some ⟨w1.heap.size, 0, none⟩), .pointer (some ⟨w.heap.size, 0, none⟩)] wr fun e w' => e = .returned (.bool ((rows.map (side ws b)).getD k 0 != zs.getD k 0)) ∧ ∃ m, w' = wr.drewN m from fun k wr hk' hb =>
    mis_closure k _ _ vp (rows.map (side ws b)) vc a' zs c' wr (by rw [hlen]; exact cell_below hb y0 (by simp)) (cell_below hb y1 (by simp; omega)) (HRs.out.below hb) ((Hhq.out.below HBa.out).below hb) (by rw [hlen]; exact hk') (by omega) (by omega) hz _ rfl)
  clear hba y0 y1 hlen hl
  refine (mis_places _ _ _ _ _ (by omega) HC).mono ?_
  rintro e w2 ⟨v, rfl, ho, hb⟩
  have HO := Lib.hid ho
  have HB2 := Lib.hid hb
  clear ho hb
  go_wp2_with fail
  go_ret2
  rw [places_mis] at HO
  exact ⟨_, rfl, HO.out.mono (by simp; omega) (Nat.le_refl _), HBa.out.trans (HB2.out.mono (by simp; omega))⟩
end Go.Proofs.Ythohnnobahcdpaa.misof
