/- The walks of the model's and the program's SidesOf. -/
import Derived.Test.YtoephhhofkmgjaaSides
import Derived.OwnWalk
import Derived.RangeFuncBox
namespace Go.Proofs.Ytoephhhofkmgjaa.sidesof
open Go.RowKit own pp nums samplesv samplest planes dots both sides
set_option linter.unusedVariables false

set_option maxRecDepth 100000 in
set_option maxHeartbeats 4000000 in
theorem impl_suits (a : Option Addr) (rows : List (List Int)) (c : Nat) (a' : Option Addr) (zs : List Int) (c' : Nat) (p : Option Addr) (ws : List Int) (q : Nat) (b : Int) (w : World) (hr : grid.Reads w a rows) (hq : ints.Reads .i64 w a' zs) (hp : ints.Reads .i64 w p ws) (hn : rows.length ≤ 1048576) (hz : zs.length ≤ 1048576) (hm : ∀ r ∈ rows, r.length ≤ 1048576) (hk : ws.length ≤ 1048576) (ok : Bool) (h : Hid (bothB rows zs ws b = ok)) :
    Calls Try.prog 142 #[.agg #[.slice a rows.length c, .slice a' zs.length c'], .agg #[.slice p ws.length q, .int .i64 b]] w (RetB ok w) := by
  have HM := Lib.hid hm
  clear hm
  cases hs : sampleB rows zs
  · have e : ok = false := by rw [← h.out]; simp [bothB, hs]
    have HS := Lib.hid hs
    clear h hs
    subst e
    have Hhr := Lib.hid hr
    have Hhq := Lib.hid hq
    have Hhp := Lib.hid hp
    clear hr hq hp
    go_enter Try.func142, Try.ntmps142
    go_wp2_with fail
    have x0_0 : (w.alloc (.cells #[.slice a rows.length c, .slice a' zs.length c'] 59)).cell? ⟨w.heap.size, 0, none⟩ = some (.slice a rows.length c) := cell_new _ _ _ (by simp) rfl
    have x0_1 : (w.alloc (.cells #[.slice a rows.length c, .slice a' zs.length c'] 59)).cell? ⟨w.heap.size, 1, none⟩ = some (.slice a' zs.length c') := cell_new _ _ _ (by simp) rfl
    have HB0 := Lib.hid (below_alloc w (.cells #[.slice a rows.length c, .slice a' zs.length c'] 59))
    replace x0_0 := cell_old (.cells #[.slice p ws.length q, .int .i64 b] 86) x0_0
    replace x0_1 := cell_old (.cells #[.slice p ws.length q, .int .i64 b] 86) x0_1
    have x1_0 : ((w.alloc (.cells #[.slice a rows.length c, .slice a' zs.length c'] 59)).alloc (.cells #[.slice p ws.length q, .int .i64 b] 86)).cell? ⟨w.heap.size + 1, 0, none⟩ = some (.slice p ws.length q) := cell_new _ _ _ (by simp) rfl
    have x1_1 : ((w.alloc (.cells #[.slice a rows.length c, .slice a' zs.length c'] 59)).alloc (.cells #[.slice p ws.length q, .int .i64 b] 86)).cell? ⟨w.heap.size + 1, 1, none⟩ = some (.int .i64 b) := cell_new _ _ _ (by simp) rfl
    replace HB0 := Lib.hid (HB0.out.alloc (by simp) (.cells #[.slice p ws.length q, .int .i64 b] 86))
    have s0 : w.heap.size + 2 ≤ ((w.alloc (.cells #[.slice a rows.length c, .slice a' zs.length c'] 59)).alloc (.cells #[.slice p ws.length q, .int .i64 b] 86)).heap.size := by simp
    generalize hw : ((w.alloc (.cells #[.slice a rows.length c, .slice a' zs.length c'] 59)).alloc (.cells #[.slice p ws.length q, .int .i64 b] 86)) = w0 at *
    clear hw
    have n0_0 : w.heap.size < w0.heap.size := by omega
    have n0_1 : w.heap.size + 1 < w0.heap.size := by omega
    refine (impl_sample a rows c a' zs c' _ (Hhr.out.below HB0.out) (Hhq.out.below HB0.out) hn hz HM.out false HS).mono ?_
    rintro e w1 ⟨rfl, hb⟩
    have s1 : w0.heap.size ≤ w1.heap.size := hb.size
    have n1_0 : w.heap.size < w1.heap.size := by omega
    have n1_1 : w.heap.size + 1 < w1.heap.size := by omega
    replace x0_0 := cell_below hb x0_0 (by omega)
    replace x0_1 := cell_below hb x0_1 (by omega)
    replace x1_0 := cell_below hb x1_0 (by omega)
    replace x1_1 := cell_below hb x1_1 (by omega)
    have HB1 := Lib.hid (HB0.out.trans (hb.mono (by omega)))
    clear hb
    go_wp2_with fail
    go_ret
    exact ⟨rfl, HB1.out⟩
  cases hpl : planeB ws b
  · have e : ok = false := by rw [← h.out]; simp [bothB, hpl]
    have HS := Lib.hid hs
    have HP := Lib.hid hpl
    clear h hs hpl
    subst e
    have Hhr := Lib.hid hr
    have Hhq := Lib.hid hq
    have Hhp := Lib.hid hp
    clear hr hq hp
    go_enter Try.func142, Try.ntmps142
    go_wp2_with fail
    have x0_0 : (w.alloc (.cells #[.slice a rows.length c, .slice a' zs.length c'] 59)).cell? ⟨w.heap.size, 0, none⟩ = some (.slice a rows.length c) := cell_new _ _ _ (by simp) rfl
    have x0_1 : (w.alloc (.cells #[.slice a rows.length c, .slice a' zs.length c'] 59)).cell? ⟨w.heap.size, 1, none⟩ = some (.slice a' zs.length c') := cell_new _ _ _ (by simp) rfl
    have HB0 := Lib.hid (below_alloc w (.cells #[.slice a rows.length c, .slice a' zs.length c'] 59))
    replace x0_0 := cell_old (.cells #[.slice p ws.length q, .int .i64 b] 86) x0_0
    replace x0_1 := cell_old (.cells #[.slice p ws.length q, .int .i64 b] 86) x0_1
    have x1_0 : ((w.alloc (.cells #[.slice a rows.length c, .slice a' zs.length c'] 59)).alloc (.cells #[.slice p ws.length q, .int .i64 b] 86)).cell? ⟨w.heap.size + 1, 0, none⟩ = some (.slice p ws.length q) := cell_new _ _ _ (by simp) rfl
    have x1_1 : ((w.alloc (.cells #[.slice a rows.length c, .slice a' zs.length c'] 59)).alloc (.cells #[.slice p ws.length q, .int .i64 b] 86)).cell? ⟨w.heap.size + 1, 1, none⟩ = some (.int .i64 b) := cell_new _ _ _ (by simp) rfl
    replace HB0 := Lib.hid (HB0.out.alloc (by simp) (.cells #[.slice p ws.length q, .int .i64 b] 86))
    have s0 : w.heap.size + 2 ≤ ((w.alloc (.cells #[.slice a rows.length c, .slice a' zs.length c'] 59)).alloc (.cells #[.slice p ws.length q, .int .i64 b] 86)).heap.size := by simp
    generalize hw : ((w.alloc (.cells #[.slice a rows.length c, .slice a' zs.length c'] 59)).alloc (.cells #[.slice p ws.length q, .int .i64 b] 86)) = w0 at *
    clear hw
    have n0_0 : w.heap.size < w0.heap.size := by omega
    have n0_1 : w.heap.size + 1 < w0.heap.size := by omega
    refine (impl_sample a rows c a' zs c' _ (Hhr.out.below HB0.out) (Hhq.out.below HB0.out) hn hz HM.out true HS).mono ?_
    rintro e w1 ⟨rfl, hb⟩
    have s1 : w0.heap.size ≤ w1.heap.size := hb.size
    have n1_0 : w.heap.size < w1.heap.size := by omega
    have n1_1 : w.heap.size + 1 < w1.heap.size := by omega
    replace x0_0 := cell_below hb x0_0 (by omega)
    replace x0_1 := cell_below hb x0_1 (by omega)
    replace x1_0 := cell_below hb x1_0 (by omega)
    replace x1_1 := cell_below hb x1_1 (by omega)
    have HB1 := Lib.hid (HB0.out.trans (hb.mono (by omega)))
    clear hb
    go_wp2_with fail
    refine (impl_plane p ws q b _ (Hhp.out.below HB1.out) hk false HP).mono ?_
    rintro e w2 ⟨rfl, hb⟩
    have s2 : w1.heap.size ≤ w2.heap.size := hb.size
    have n2_0 : w.heap.size < w2.heap.size := by omega
    have n2_1 : w.heap.size + 1 < w2.heap.size := by omega
    replace x0_0 := cell_below hb x0_0 (by omega)
    replace x0_1 := cell_below hb x0_1 (by omega)
    replace x1_0 := cell_below hb x1_0 (by omega)
    replace x1_1 := cell_below hb x1_1 (by omega)
    have HB2 := Lib.hid (HB1.out.trans (hb.mono (by omega)))
    clear hb
    go_wp2_with fail
    go_ret
    exact ⟨rfl, HB2.out⟩
  by_cases h0 : rows.length = 0
  · have e : ok = true := by rw [← h.out]; simp [bothB, hs, hpl, h0]
    have HS := Lib.hid hs
    have HP := Lib.hid hpl
    have g0 : ((rows.length : Int) == 0) = true := by simp [h0]
    clear h hs hpl h0
    subst e
    have Hhr := Lib.hid hr
    have Hhq := Lib.hid hq
    have Hhp := Lib.hid hp
    clear hr hq hp
    go_enter Try.func142, Try.ntmps142
    go_wp2_with fail
    have x0_0 : (w.alloc (.cells #[.slice a rows.length c, .slice a' zs.length c'] 59)).cell? ⟨w.heap.size, 0, none⟩ = some (.slice a rows.length c) := cell_new _ _ _ (by simp) rfl
    have x0_1 : (w.alloc (.cells #[.slice a rows.length c, .slice a' zs.length c'] 59)).cell? ⟨w.heap.size, 1, none⟩ = some (.slice a' zs.length c') := cell_new _ _ _ (by simp) rfl
    have HB0 := Lib.hid (below_alloc w (.cells #[.slice a rows.length c, .slice a' zs.length c'] 59))
    replace x0_0 := cell_old (.cells #[.slice p ws.length q, .int .i64 b] 86) x0_0
    replace x0_1 := cell_old (.cells #[.slice p ws.length q, .int .i64 b] 86) x0_1
    have x1_0 : ((w.alloc (.cells #[.slice a rows.length c, .slice a' zs.length c'] 59)).alloc (.cells #[.slice p ws.length q, .int .i64 b] 86)).cell? ⟨w.heap.size + 1, 0, none⟩ = some (.slice p ws.length q) := cell_new _ _ _ (by simp) rfl
    have x1_1 : ((w.alloc (.cells #[.slice a rows.length c, .slice a' zs.length c'] 59)).alloc (.cells #[.slice p ws.length q, .int .i64 b] 86)).cell? ⟨w.heap.size + 1, 1, none⟩ = some (.int .i64 b) := cell_new _ _ _ (by simp) rfl
    replace HB0 := Lib.hid (HB0.out.alloc (by simp) (.cells #[.slice p ws.length q, .int .i64 b] 86))
    have s0 : w.heap.size + 2 ≤ ((w.alloc (.cells #[.slice a rows.length c, .slice a' zs.length c'] 59)).alloc (.cells #[.slice p ws.length q, .int .i64 b] 86)).heap.size := by simp
    generalize hw : ((w.alloc (.cells #[.slice a rows.length c, .slice a' zs.length c'] 59)).alloc (.cells #[.slice p ws.length q, .int .i64 b] 86)) = w0 at *
    clear hw
    have n0_0 : w.heap.size < w0.heap.size := by omega
    have n0_1 : w.heap.size + 1 < w0.heap.size := by omega
    refine (impl_sample a rows c a' zs c' _ (Hhr.out.below HB0.out) (Hhq.out.below HB0.out) hn hz HM.out true HS).mono ?_
    rintro e w1 ⟨rfl, hb⟩
    have s1 : w0.heap.size ≤ w1.heap.size := hb.size
    have n1_0 : w.heap.size < w1.heap.size := by omega
    have n1_1 : w.heap.size + 1 < w1.heap.size := by omega
    replace x0_0 := cell_below hb x0_0 (by omega)
    replace x0_1 := cell_below hb x0_1 (by omega)
    replace x1_0 := cell_below hb x1_0 (by omega)
    replace x1_1 := cell_below hb x1_1 (by omega)
    have HB1 := Lib.hid (HB0.out.trans (hb.mono (by omega)))
    clear hb
    go_wp2_with fail
    refine (impl_plane p ws q b _ (Hhp.out.below HB1.out) hk true HP).mono ?_
    rintro e w2 ⟨rfl, hb⟩
    have s2 : w1.heap.size ≤ w2.heap.size := hb.size
    have n2_0 : w.heap.size < w2.heap.size := by omega
    have n2_1 : w.heap.size + 1 < w2.heap.size := by omega
    replace x0_0 := cell_below hb x0_0 (by omega)
    replace x0_1 := cell_below hb x0_1 (by omega)
    replace x1_0 := cell_below hb x1_0 (by omega)
    replace x1_1 := cell_below hb x1_1 (by omega)
    have HB2 := Lib.hid (HB1.out.trans (hb.mono (by omega)))
    clear hb
    go_wp2_with fail
    go_quiet (fail)
    go_wp2_with fail
    go_ret
    exact ⟨rfl, ints.below_drewN HB2.out _⟩
  by_cases hl : (rows.getD 0 []).length = ws.length
  · have e : ok = true := by rw [← h.out]; simp only [bothB, hs, hpl, hl]; simp
    have g1 : (((rows.getD 0 []).length : Int) == (ws.length : Int)) = true := by simp only [hl]; simp
    have HS := Lib.hid hs
    have HP := Lib.hid hpl
    have g0 : ((rows.length : Int) == 0) = false := by simp; exact fun e => h0 (by rw [e]; rfl)
    have i0 : (0 : Int) < (rows.length : Int) := by omega
    have i1 : 0 < rows.length := by omega
    have hml : (rows.getD 0 []).length ≤ 1048576 := HM.out _ (getD_mem rows [] 0 i1)
    clear h hs hpl h0 hl
    subst e
    obtain ⟨rb, ro, rp, rq, e0, hb0, hc0, _, _⟩ := hr.at (k := 0) i1
    subst e0
    simp only [Nat.add_zero] at hc0
    have hc0 := cell_old (.cells #[.slice (some ⟨rb, ro, none⟩) rows.length c, .slice a' zs.length c'] 59) hc0
    have hc0 := cell_old (.cells #[.slice p ws.length q, .int .i64 b] 86) hc0
    generalize rows.getD 0 [] = r0 at *
    have Hhr := Lib.hid hr
    have Hhq := Lib.hid hq
    have Hhp := Lib.hid hp
    clear hr hq hp
    go_enter Try.func142, Try.ntmps142
    go_wp2_with fail
    have x0_0 : (w.alloc (.cells #[.slice (some ⟨rb, ro, none⟩) rows.length c, .slice a' zs.length c'] 59)).cell? ⟨w.heap.size, 0, none⟩ = some (.slice (some ⟨rb, ro, none⟩) rows.length c) := cell_new _ _ _ (by simp) rfl
    have x0_1 : (w.alloc (.cells #[.slice (some ⟨rb, ro, none⟩) rows.length c, .slice a' zs.length c'] 59)).cell? ⟨w.heap.size, 1, none⟩ = some (.slice a' zs.length c') := cell_new _ _ _ (by simp) rfl
    have HB0 := Lib.hid (below_alloc w (.cells #[.slice (some ⟨rb, ro, none⟩) rows.length c, .slice a' zs.length c'] 59))
    replace x0_0 := cell_old (.cells #[.slice p ws.length q, .int .i64 b] 86) x0_0
    replace x0_1 := cell_old (.cells #[.slice p ws.length q, .int .i64 b] 86) x0_1
    have x1_0 : ((w.alloc (.cells #[.slice (some ⟨rb, ro, none⟩) rows.length c, .slice a' zs.length c'] 59)).alloc (.cells #[.slice p ws.length q, .int .i64 b] 86)).cell? ⟨w.heap.size + 1, 0, none⟩ = some (.slice p ws.length q) := cell_new _ _ _ (by simp) rfl
    have x1_1 : ((w.alloc (.cells #[.slice (some ⟨rb, ro, none⟩) rows.length c, .slice a' zs.length c'] 59)).alloc (.cells #[.slice p ws.length q, .int .i64 b] 86)).cell? ⟨w.heap.size + 1, 1, none⟩ = some (.int .i64 b) := cell_new _ _ _ (by simp) rfl
    replace HB0 := Lib.hid (HB0.out.alloc (by simp) (.cells #[.slice p ws.length q, .int .i64 b] 86))
    have s0 : w.heap.size + 2 ≤ ((w.alloc (.cells #[.slice (some ⟨rb, ro, none⟩) rows.length c, .slice a' zs.length c'] 59)).alloc (.cells #[.slice p ws.length q, .int .i64 b] 86)).heap.size := by simp
    generalize hw : ((w.alloc (.cells #[.slice (some ⟨rb, ro, none⟩) rows.length c, .slice a' zs.length c'] 59)).alloc (.cells #[.slice p ws.length q, .int .i64 b] 86)) = w0 at *
    clear hw
    have n0_0 : w.heap.size < w0.heap.size := by omega
    have n0_1 : w.heap.size + 1 < w0.heap.size := by omega
    have nrb : rb < w0.heap.size := by omega
    refine (impl_sample _ rows c a' zs c' _ (Hhr.out.below HB0.out) (Hhq.out.below HB0.out) hn hz HM.out true HS).mono ?_
    rintro e w1 ⟨rfl, hb⟩
    have s1 : w0.heap.size ≤ w1.heap.size := hb.size
    have n1_0 : w.heap.size < w1.heap.size := by omega
    have n1_1 : w.heap.size + 1 < w1.heap.size := by omega
    have n1_2 : rb < w1.heap.size := by omega
    replace x0_0 := cell_below hb x0_0 (by omega)
    replace x0_1 := cell_below hb x0_1 (by omega)
    replace x1_0 := cell_below hb x1_0 (by omega)
    replace x1_1 := cell_below hb x1_1 (by omega)
    replace hc0 := cell_below hb hc0 (by omega)
    have HB1 := Lib.hid (HB0.out.trans (hb.mono (by omega)))
    clear hb
    go_wp2_with fail
    refine (impl_plane p ws q b _ (Hhp.out.below HB1.out) hk true HP).mono ?_
    rintro e w2 ⟨rfl, hb⟩
    have s2 : w1.heap.size ≤ w2.heap.size := hb.size
    have n2_0 : w.heap.size < w2.heap.size := by omega
    have n2_1 : w.heap.size + 1 < w2.heap.size := by omega
    have n2_2 : rb < w2.heap.size := by omega
    replace x0_0 := cell_below hb x0_0 (by omega)
    replace x0_1 := cell_below hb x0_1 (by omega)
    replace x1_0 := cell_below hb x1_0 (by omega)
    replace x1_1 := cell_below hb x1_1 (by omega)
    replace hc0 := cell_below hb hc0 (by omega)
    have HB2 := Lib.hid (HB1.out.trans (hb.mono (by omega)))
    clear hb
    go_wp2_with fail
    go_quiet (fail)
    go_wp2_with fail
    go_ret
    exact ⟨rfl, ints.below_drewN HB2.out _⟩
  · have e : ok = false := by rw [← h.out]; simp only [bothB, hs, hpl, hl, h0]; simp
    have g1 : (((rows.getD 0 []).length : Int) == (ws.length : Int)) = false := by rw [beq_eq_false_iff_ne]; omega
    have HS := Lib.hid hs
    have HP := Lib.hid hpl
    have g0 : ((rows.length : Int) == 0) = false := by simp; exact fun e => h0 (by rw [e]; rfl)
    have i0 : (0 : Int) < (rows.length : Int) := by omega
    have i1 : 0 < rows.length := by omega
    have hml : (rows.getD 0 []).length ≤ 1048576 := HM.out _ (getD_mem rows [] 0 i1)
    clear h hs hpl h0 hl
    subst e
    obtain ⟨rb, ro, rp, rq, e0, hb0, hc0, _, _⟩ := hr.at (k := 0) i1
    subst e0
    simp only [Nat.add_zero] at hc0
    have hc0 := cell_old (.cells #[.slice (some ⟨rb, ro, none⟩) rows.length c, .slice a' zs.length c'] 59) hc0
    have hc0 := cell_old (.cells #[.slice p ws.length q, .int .i64 b] 86) hc0
    generalize rows.getD 0 [] = r0 at *
    have Hhr := Lib.hid hr
    have Hhq := Lib.hid hq
    have Hhp := Lib.hid hp
    clear hr hq hp
    go_enter Try.func142, Try.ntmps142
    go_wp2_with fail
    have x0_0 : (w.alloc (.cells #[.slice (some ⟨rb, ro, none⟩) rows.length c, .slice a' zs.length c'] 59)).cell? ⟨w.heap.size, 0, none⟩ = some (.slice (some ⟨rb, ro, none⟩) rows.length c) := cell_new _ _ _ (by simp) rfl
    have x0_1 : (w.alloc (.cells #[.slice (some ⟨rb, ro, none⟩) rows.length c, .slice a' zs.length c'] 59)).cell? ⟨w.heap.size, 1, none⟩ = some (.slice a' zs.length c') := cell_new _ _ _ (by simp) rfl
    have HB0 := Lib.hid (below_alloc w (.cells #[.slice (some ⟨rb, ro, none⟩) rows.length c, .slice a' zs.length c'] 59))
    replace x0_0 := cell_old (.cells #[.slice p ws.length q, .int .i64 b] 86) x0_0
    replace x0_1 := cell_old (.cells #[.slice p ws.length q, .int .i64 b] 86) x0_1
    have x1_0 : ((w.alloc (.cells #[.slice (some ⟨rb, ro, none⟩) rows.length c, .slice a' zs.length c'] 59)).alloc (.cells #[.slice p ws.length q, .int .i64 b] 86)).cell? ⟨w.heap.size + 1, 0, none⟩ = some (.slice p ws.length q) := cell_new _ _ _ (by simp) rfl
    have x1_1 : ((w.alloc (.cells #[.slice (some ⟨rb, ro, none⟩) rows.length c, .slice a' zs.length c'] 59)).alloc (.cells #[.slice p ws.length q, .int .i64 b] 86)).cell? ⟨w.heap.size + 1, 1, none⟩ = some (.int .i64 b) := cell_new _ _ _ (by simp) rfl
    replace HB0 := Lib.hid (HB0.out.alloc (by simp) (.cells #[.slice p ws.length q, .int .i64 b] 86))
    have s0 : w.heap.size + 2 ≤ ((w.alloc (.cells #[.slice (some ⟨rb, ro, none⟩) rows.length c, .slice a' zs.length c'] 59)).alloc (.cells #[.slice p ws.length q, .int .i64 b] 86)).heap.size := by simp
    generalize hw : ((w.alloc (.cells #[.slice (some ⟨rb, ro, none⟩) rows.length c, .slice a' zs.length c'] 59)).alloc (.cells #[.slice p ws.length q, .int .i64 b] 86)) = w0 at *
    clear hw
    have n0_0 : w.heap.size < w0.heap.size := by omega
    have n0_1 : w.heap.size + 1 < w0.heap.size := by omega
    have nrb : rb < w0.heap.size := by omega
    refine (impl_sample _ rows c a' zs c' _ (Hhr.out.below HB0.out) (Hhq.out.below HB0.out) hn hz HM.out true HS).mono ?_
    rintro e w1 ⟨rfl, hb⟩
    have s1 : w0.heap.size ≤ w1.heap.size := hb.size
    have n1_0 : w.heap.size < w1.heap.size := by omega
    have n1_1 : w.heap.size + 1 < w1.heap.size := by omega
    have n1_2 : rb < w1.heap.size := by omega
    replace x0_0 := cell_below hb x0_0 (by omega)
    replace x0_1 := cell_below hb x0_1 (by omega)
    replace x1_0 := cell_below hb x1_0 (by omega)
    replace x1_1 := cell_below hb x1_1 (by omega)
    replace hc0 := cell_below hb hc0 (by omega)
    have HB1 := Lib.hid (HB0.out.trans (hb.mono (by omega)))
    clear hb
    go_wp2_with fail
    refine (impl_plane p ws q b _ (Hhp.out.below HB1.out) hk true HP).mono ?_
    rintro e w2 ⟨rfl, hb⟩
    have s2 : w1.heap.size ≤ w2.heap.size := hb.size
    have n2_0 : w.heap.size < w2.heap.size := by omega
    have n2_1 : w.heap.size + 1 < w2.heap.size := by omega
    have n2_2 : rb < w2.heap.size := by omega
    replace x0_0 := cell_below hb x0_0 (by omega)
    replace x0_1 := cell_below hb x0_1 (by omega)
    replace x1_0 := cell_below hb x1_0 (by omega)
    replace x1_1 := cell_below hb x1_1 (by omega)
    replace hc0 := cell_below hb hc0 (by omega)
    have HB2 := Lib.hid (HB1.out.trans (hb.mono (by omega)))
    clear hb
    go_wp2_with fail
    go_quiet (fail)
    go_wp2_with fail
    go_ret
    exact ⟨rfl, ints.below_drewN HB2.out _⟩
end Go.Proofs.Ytoephhhofkmgjaa.sidesof
