/- The walks of the model's and the program's SidesOf. -/
import Derived.Test.YthohnnobahcdpaaSides
import Derived.OwnWalk
import Derived.RangeFuncBox
namespace Go.Proofs.Ythohnnobahcdpaa.sidesof
open Go.RowKit own pp nums samplesv samplest planes dots both sides
set_option linter.unusedVariables false

set_option maxRecDepth 100000 in
set_option maxHeartbeats 4000000 in
theorem impl_suits (a : Option Addr) (rows : List (List Int)) (c : Nat) (a' : Option Addr) (zs : List Int) (c' : Nat) (p : Option Addr) (ws : List Int) (q : Nat) (b : Int) (w : World) (hr : grid.Reads w a rows) (hq : ints.Reads .i64 w a' zs) (hp : ints.Reads .i64 w p ws) (hn : rows.length ≤ 1048576) (hz : zs.length ≤ 1048576) (hm : ∀ r ∈ rows, r.length ≤ 1048576) (hk : ws.length ≤ 1048576) (ok : Bool) (h : Hid (bothB rows zs ws b = ok)) :
    Calls Try.prog 77 #[.agg #[.slice a rows.length c, .slice a' zs.length c'], .agg #[.slice p ws.length q, .int .i64 b]] w (RetB ok w) := by
  have HM := Lib.hid hm
  clear hm
  cases hs : sampleB rows zs
  · have e : ok = false := by rw [← h.out]; simp [bothB, hs]
    have HS := Lib.hid hs
    clear h hs
    subst e
    have Hhr := Lib.hid hr
    have Hhq := Lib.hid hq
    have Hhp := Lib.hid hp
    clear hr hq hp
    go_enter Try.func77, Try.ntmps77
    go_wp2_with fail
    have x0_0 : (w.alloc (.cells #[.slice a rows.length c, .slice a' zs.length c'] 38)).cell? ⟨w.heap.size, 0, none⟩ = some (.slice a rows.length c) := cell_new _ _ _ (by simp) rfl
    have x0_1 : (w.alloc (.cells #[.slice a rows.length c, .slice a' zs.length c'] 38)).cell? ⟨w.heap.size, 1, none⟩ = some (.slice a' zs.length c') := cell_new _ _ _ (by simp) rfl
    have HB0 := Lib.hid (below_alloc w (.cells #[.slice a rows.length c, .slice a' zs.length c'] 38))
    replace x0_0 := cell_old (.cells #[.slice p ws.length q, .int .i64 b] 27) x0_0
    replace x0_1 := cell_old (.cells #[.slice p ws.length q, .int .i64 b] 27) x0_1
    have x1_0 : ((w.alloc (.cells #[.slice a rows.length c, .slice a' zs.length c'] 38)).alloc (.cells #[.slice p ws.length q, .int .i64 b] 27)).cell? ⟨w.heap.size + 1, 0, none⟩ = some (.slice p ws.length q) := cell_new _ _ _ (by simp) rfl
    have x1_1 : ((w.alloc (.cells #[.slice a rows.length c, .slice a' zs.length c'] 38)).alloc (.cells #[.slice p ws.length q, .int .i64 b] 27)).cell? ⟨w.heap.size + 1, 1, none⟩ = some (.int .i64 b) := cell_new _ _ _ (by simp) rfl
    replace HB0 := Lib.hid (HB0.out.alloc (by simp) (.cells #[.slice p ws.length q, .int .i64 b] 27))
    have s0 : w.heap.size + 2 ≤ ((w.alloc (.cells #[.slice a rows.length c, .slice a' zs.length c'] 38)).alloc (.cells #[.slice p ws.length q, .int .i64 b] 27)).heap.size := by simp
    generalize hw : ((w.alloc (.cells #[.slice a rows.length c, .slice a' zs.length c'] 38)).alloc (.cells #[.slice p ws.length q, .int .i64 b] 27)) = w0 at *
    clear hw
    have n0_0 : w.heap.size < w0.heap.size := by omega
    have n0_1 : w.heap.size + 1 < w0.heap.size := by omega
    refine (impl_sample a rows c a' zs c' _ (Hhr.out.below HB0.out) (Hhq.out.below HB0.out) hn hz HM.out false HS).mono ?_
    rintro e w1 ⟨rfl, hb⟩
    have s1 : w0.heap.size ≤ w1.heap.size := hb.size
    have n1_0 : w.heap.size < w1.heap.size := by omega
    have n1_1 : w.heap.size + 1 < w1.heap.size := by omega
    replace x0_0 := cell_below hb x0_0 (by omega)
    replace x0_1 := cell_below hb x0_1 (by omega)
    replace x1_0 := cell_below hb x1_0 (by omega)
    replace x1_1 := cell_below hb x1_1 (by omega)
    have HB1 := Lib.hid (HB0.out.trans (hb.mono (by omega)))
    clear hb
    go_wp2_with fail
    go_ret
    exact ⟨rfl, HB1.out⟩
  cases hpl : planeB ws b
  · have e : ok = false := by rw [← h.out]; simp [bothB, hpl]
    have HS := Lib.hid hs
    have HP := Lib.hid hpl
    clear h hs hpl
    subst e
    have Hhr := Lib.hid hr
    have Hhq := Lib.hid hq
    have Hhp := Lib.hid hp
    clear hr hq hp
    go_enter Try.func77, Try.ntmps77
    go_wp2_with fail
    have x0_0 : (w.alloc (.cells #[.slice a rows.length c, .slice a' zs.length c'] 38)).cell? ⟨w.heap.size, 0, none⟩ = some (.slice a rows.length c) := cell_new _ _ _ (by simp) rfl
    have x0_1 : (w.alloc (.cells #[.slice a rows.length c, .slice a' zs.length c'] 38)).cell? ⟨w.heap.size, 1, none⟩ = some (.slice a' zs.length c') := cell_new _ _ _ (by simp) rfl
    have HB0 := Lib.hid (below_alloc w (.cells #[.slice a rows.length c, .slice a' zs.length c'] 38))
    replace x0_0 := cell_old (.cells #[.slice p ws.length q, .int .i64 b] 27) x0_0
    replace x0_1 := cell_old (.cells #[.slice p ws.length q, .int .i64 b] 27) x0_1
    have x1_0 : ((w.alloc (.cells #[.slice a rows.length c, .slice a' zs.length c'] 38)).alloc (.cells #[.slice p ws.length q, .int .i64 b] 27)).cell? ⟨w.heap.size + 1, 0, none⟩ = some (.slice p ws.length q) := cell_new _ _ _ (by simp) rfl
    have x1_1 : ((w.alloc (.cells #[.slice a rows.length c, .slice a' zs.length c'] 38)).alloc (.cells #[.slice p ws.length q, .int .i64 b] 27)).cell? ⟨w.heap.size + 1, 1, none⟩ = some (.int .i64 b) := cell_new _ _ _ (by simp) rfl
    replace HB0 := Lib.hid (HB0.out.alloc (by simp) (.cells #[.slice p ws.length q, .int .i64 b] 27))
    have s0 : w.heap.size + 2 ≤ ((w.alloc (.cells #[.slice a rows.length c, .slice a' zs.length c'] 38)).alloc (.cells #[.slice p ws.length q, .int .i64 b] 27)).heap.size := by simp
    generalize hw : ((w.alloc (.cells #[.slice a rows.length c, .slice a' zs.length c'] 38)).alloc (.cells #[.slice p ws.length q, .int .i64 b] 27)) = w0 at *
    clear hw
    have n0_0 : w.heap.size < w0.heap.size := by omega
    have n0_1 : w.heap.size + 1 < w0.heap.size := by omega
    refine (impl_sample a rows c a' zs c' _ (Hhr.out.below HB0.out) (Hhq.out.below HB0.out) hn hz HM.out true HS).mono ?_
    rintro e w1 ⟨rfl, hb⟩
    have s1 : w0.heap.size ≤ w1.heap.size := hb.size
    have n1_0 : w.heap.size < w1.heap.size := by omega
    have n1_1 : w.heap.size + 1 < w1.heap.size := by omega
    replace x0_0 := cell_below hb x0_0 (by omega)
    replace x0_1 := cell_below hb x0_1 (by omega)
    replace x1_0 := cell_below hb x1_0 (by omega)
    replace x1_1 := cell_below hb x1_1 (by omega)
    have HB1 := Lib.hid (HB0.out.trans (hb.mono (by omega)))
    clear hb
    go_wp2_with fail
    refine (impl_plane p ws q b _ (Hhp.out.below HB1.out) hk false HP).mono ?_
    rintro e w2 ⟨rfl, hb⟩
    have s2 : w1.heap.size ≤ w2.heap.size := hb.size
    have n2_0 : w.heap.size < w2.heap.size := by omega
    have n2_1 : w.heap.size + 1 < w2.heap.size := by omega
    replace x0_0 := cell_below hb x0_0 (by omega)
    replace x0_1 := cell_below hb x0_1 (by omega)
    replace x1_0 := cell_below hb x1_0 (by omega)
    replace x1_1 := cell_below hb x1_1 (by omega)
    have HB2 := Lib.hid (HB1.out.trans (hb.mono (by omega)))
    clear hb
    go_wp2_with fail
    go_ret
    exact ⟨rfl, HB2.out⟩
  by_cases h0 : rows.length = 0
  · have e : ok = true := by rw [← h.out]; simp [bothB, hs, hpl, h0]
    have HS := Lib.hid hs
    have HP := Lib.hid hpl
    have g0 : ((rows.length : Int) == 0) = true := by simp [h0]
    clear h hs hpl h0
    subst e
    have Hhr := Lib.hid hr
    have Hhq := Lib.hid hq
    have Hhp := Lib.hid hp
    clear hr hq hp
    go_enter Try.func77, Try.ntmps77
    go_wp2_with fail
    have x0_0 : (w.alloc (.cells #[.slice a rows.length c, .slice a' zs.length c'] 38)).cell? ⟨w.heap.size, 0, none⟩ = some (.slice a rows.length c) := cell_new _ _ _ (by simp) rfl
    have x0_1 : (w.alloc (.cells #[.slice a rows.length c, .slice a' zs.length c'] 38)).cell? ⟨w.heap.size, 1, none⟩ = some (.slice a' zs.length c') := cell_new _ _ _ (by simp) rfl
    have HB0 := Lib.hid (below_alloc w (.cells #[.slice a rows.length c, .slice a' zs.length c'] 38))
    replace x0_0 := cell_old (.cells #[.slice p ws.length q, .int .i64 b] 27) x0_0
    replace x0_1 := cell_old (.cells #[.slice p ws.length q, .int .i64 b] 27) x0_1
    have x1_0 : ((w.alloc (.cells #[.slice a rows.length c, .slice a' zs.length c'] 38)).alloc (.cells #[.slice p ws.length q, .int .i64 b] 27)).cell? ⟨w.heap.size + 1, 0, none⟩ = some (.slice p ws.length q) := cell_new _ _ _ (by simp) rfl
    have x1_1 : ((w.alloc (.cells #[.slice a rows.length c, .slice a' zs.length c'] 38)).alloc (.cells #[.slice p ws.length q, .int .i64 b] 27)).cell? ⟨w.heap.size + 1, 1, none⟩ = some (.int .i64 b) := cell_new _ _ _ (by simp) rfl
    replace HB0 := Lib.hid (HB0.out.alloc (by simp) (.cells #[.slice p ws.length q, .int .i64 b] 27))
    have s0 : w.heap.size + 2 ≤ ((w.alloc (.cells #[.slice a rows.length c, .slice a' zs.length c'] 38)).alloc (.cells #[.slice p ws.length q, .int .i64 b] 27)).heap.size := by simp
    generalize hw : ((w.alloc (.cells #[.slice a rows.length c, .slice a' zs.length c'] 38)).alloc (.cells #[.slice p ws.length q, .int .i64 b] 27)) = w0 at *
    clear hw
    have n0_0 : w.heap.size < w0.heap.size := by omega
    have n0_1 : w.heap.size + 1 < w0.heap.size := by omega
    refine (impl_sample a rows c a' zs c' _ (Hhr.out.below HB0.out) (Hhq.out.below HB0.out) hn hz HM.out true HS).mono ?_
    rintro e w1 ⟨rfl, hb⟩
    have s1 : w0.heap.size ≤ w1.heap.size := hb.size
    have n1_0 : w.heap.size < w1.heap.size := by omega
    have n1_1 : w.heap.size + 1 < w1.heap.size := by omega
    replace x0_0 := cell_below hb x0_0 (by omega)
    replace x0_1 := cell_below hb x0_1 (by omega)
    replace x1_0 := cell_below hb x1_0 (by omega)
    replace x1_1 := cell_below hb x1_1 (by omega)
    have HB1 := Lib.hid (HB0.out.trans (hb.mono (by omega)))
    clear hb
    go_wp2_with fail
    refine (impl_plane p ws q b _ (Hhp.out.below HB1.out) hk true HP).mono ?_
    rintro e w2 ⟨rfl, hb⟩
    have s2 : w1.heap.size ≤ w2.heap.size := hb.size
    have n2_0 : w.heap.size < w2.heap.size := by omega
    have n2_1 : w.heap.size + 1 < w2.heap.size := by omega
    replace x0_0 := cell_below hb x0_0 (by omega)
    replace x0_1 := cell_below hb x0_1 (by omega)
    replace x1_0 := cell_below hb x1_0 (by omega)
    replace x1_1 := cell_below hb x1_1 (by omega)
    have HB2 := Lib.hid (HB1.out.trans (hb.mono (by omega)))
    clear hb
    go_wp2_with fail
    go_quiet (fail)
    go_wp2_with fail
    go_ret
    exact ⟨rfl, ints.below_drewN HB2.out _⟩
  by_cases hl : (rows.getD 0 []).length = ws.length
  · have e : ok = true := by rw [← h.out]; simp only [bothB, hs, hpl, hl]; simp
    have g1 : (((rows.getD 0 []).length : Int) == (ws.length : Int)) = true := by simp only [hl]; simp
    have HS := Lib.hid hs
    have HP := Lib.hid hpl
    have g0 : ((rows.length : Int) == 0) = false := by simp; exact fun e => h0 (by rw [e]; rfl)
    have i0 : (0 : Int) < (rows.length : Int) := by omega
    have i1 : 0 < rows.length := by omega
    have hml : (rows.getD 0 []).length ≤ 1048576 := HM.out _ (getD_mem rows [] 0 i1)
    clear h hs hpl h0 hl
    subst e
    obtain ⟨rb, ro, rp, rq, e0, hb0, hc0, _, _⟩ := hr.at (k := 0) i1
    subst e0
    simp only [Nat.add_zero] at hc0
    have hc0 := cell_old (.cells #[.slice (some ⟨rb, ro, none⟩) rows.length c, .slice a' zs.length c'] 38) hc0
    have hc0 := cell_old (.cells #[.slice p ws.length q, .int .i64 b] 27) hc0
    generalize rows.getD 0 [] = r0 at *
    have Hhr := Lib.hid hr
    have Hhq := Lib.hid hq
    have Hhp := Lib.hid hp
    clear hr hq hp
    go_enter Try.func77, Try.ntmps77
    go_wp2_with fail
    have x0_0 : (w.alloc (.cells #[.slice (some ⟨rb, ro, none⟩) rows.length c, .slice a' zs.length c'] 38)).cell? ⟨w.heap.size, 0, none⟩ = some (.slice (some ⟨rb, ro, none⟩) rows.length c) := cell_new _ _ _ (by simp) rfl
    have x0_1 : (w.alloc (.cells #[.slice (some ⟨rb, ro, none⟩) rows.length c, .slice a' zs.length c'] 38)).cell? ⟨w.heap.size, 1, none⟩ = some (.slice a' zs.length c') := cell_new _ _ _ (by simp) rfl
    have HB0 := Lib.hid (below_alloc w (.cells #[.slice (some ⟨rb, ro, none⟩) rows.length c, .slice a' zs.length c'] 38))
    replace x0_0 := cell_old (.cells #[.slice p ws.length q, .int .i64 b] 27) x0_0
    replace x0_1 := cell_old (.cells #[.slice p ws.length q, .int .i64 b] 27) x0_1
    have x1_0 : ((w.alloc (.cells #[.slice (some ⟨rb, ro, none⟩) rows.length c, .slice a' zs.length c'] 38)).alloc (.cells #[.slice p ws.length q, .int .i64 b] 27)).cell? ⟨w.heap.size + 1, 0, none⟩ = some (.slice p ws.length q) := cell_new _ _ _ (by simp) rfl
    have x1_1 : ((w.alloc (.cells #[.slice (some ⟨rb, ro, none⟩) rows.length c, .slice a' zs.length c'] 38)).alloc (.cells #[.slice p ws.length q, .int .i64 b] 27)).cell? ⟨w.heap.size + 1, 1, none⟩ = some (.int .i64 b) := cell_new _ _ _ (by simp) rfl
    replace HB0 := Lib.hid (HB0.out.alloc (by simp) (.cells #[.slice p ws.length q, .int .i64 b] 27))
    have s0 : w.heap.size + 2 ≤ ((w.alloc (.cells #[.slice (some ⟨rb, ro, none⟩) rows.length c, .slice a' zs.length c'] 38)).alloc (.cells #[.slice p ws.length q, .int .i64 b] 27)).heap.size := by simp
    generalize hw : ((w.alloc (.cells #[.slice (some ⟨rb, ro, none⟩) rows.length c, .slice a' zs.length c'] 38)).alloc (.cells #[.slice p ws.length q, .int .i64 b] 27)) = w0 at *
    clear hw
    have n0_0 : w.heap.size < w0.heap.size := by omega
    have n0_1 : w.heap.size + 1 < w0.heap.size := by omega
    have nrb : rb < w0.heap.size := by omega
    refine (impl_sample _ rows c a' zs c' _ (Hhr.out.below HB0.out) (Hhq.out.below HB0.out) hn hz HM.out true HS).mono ?_
    rintro e w1 ⟨rfl, hb⟩
    have s1 : w0.heap.size ≤ w1.heap.size := hb.size
    have n1_0 : w.heap.size < w1.heap.size := by omega
    have n1_1 : w.heap.size + 1 < w1.heap.size := by omega
    have n1_2 : rb < w1.heap.size := by omega
    replace x0_0 := cell_below hb x0_0 (by omega)
    replace x0_1 := cell_below hb x0_1 (by omega)
    replace x1_0 := cell_below hb x1_0 (by omega)
    replace x1_1 := cell_below hb x1_1 (by omega)
    replace hc0 := cell_below hb hc0 (by omega)
    have HB1 := Lib.hid (HB0.out.trans (hb.mono (by omega)))
    clear hb
    go_wp2_with fail
    refine (impl_plane p ws q b _ (Hhp.out.below HB1.out) hk true HP).mono ?_
    rintro e w2 ⟨rfl, hb⟩
    have s2 : w1.heap.size ≤ w2.heap.size := hb.size
    have n2_0 : w.heap.size < w2.heap.size := by omega
    have n2_1 : w.heap.size + 1 < w2.heap.size := by omega
    have n2_2 : rb < w2.heap.size := by omega
    replace x0_0 := cell_below hb x0_0 (by omega)
    replace x0_1 := cell_below hb x0_1 (by omega)
    replace x1_0 := cell_below hb x1_0 (by omega)
    replace x1_1 := cell_below hb x1_1 (by omega)
    replace hc0 := cell_below hb hc0 (by omega)
    have HB2 := Lib.hid (HB1.out.trans (hb.mono (by omega)))
    clear hb
    go_wp2_with fail
    go_quiet (fail)
    go_wp2_with fail
    go_ret
    exact ⟨rfl, ints.below_drewN HB2.out _⟩
  · have e : ok = false := by rw [← h.out]; simp only [bothB, hs, hpl, hl, h0]; simp
    have g1 : (((rows.getD 0 []).length : Int) == (ws.length : Int)) = false := by rw [beq_eq_false_iff_ne]; omega
    have HS := Lib.hid hs
    have HP := Lib.hid hpl
    have g0 : ((rows.length : Int) == 0) = false := by simp; exact fun e => h0 (by rw [e]; rfl)
    have i0 : (0 : Int) < (rows.length : Int) := by omega
    have i1 : 0 < rows.length := by omega
    have hml : (rows.getD 0 []).length ≤ 1048576 := HM.out _ (getD_mem rows [] 0 i1)
    clear h hs hpl h0 hl
    subst e
    obtain ⟨rb, ro, rp, rq, e0, hb0, hc0, _, _⟩ := hr.at (k := 0) i1
    subst e0
    simp only [Nat.add_zero] at hc0
    have hc0 := cell_old (.cells #[.slice (some ⟨rb, ro, none⟩) rows.length c, .slice a' zs.length c'] 38) hc0
    have hc0 := cell_old (.cells #[.slice p ws.length q, .int .i64 b] 27) hc0
    generalize rows.getD 0 [] = r0 at *
    have Hhr := Lib.hid hr
    have Hhq := Lib.hid hq
    have Hhp := Lib.hid hp
    clear hr hq hp
    go_enter Try.func77, Try.ntmps77
    go_wp2_with fail
    have x0_0 : (w.alloc (.cells #[.slice (some ⟨rb, ro, none⟩) rows.length c, .slice a' zs.length c'] 38)).cell? ⟨w.heap.size, 0, none⟩ = some (.slice (some ⟨rb, ro, none⟩) rows.length c) := cell_new _ _ _ (by simp) rfl
    have x0_1 : (w.alloc (.cells #[.slice (some ⟨rb, ro, none⟩) rows.length c, .slice a' zs.length c'] 38)).cell? ⟨w.heap.size, 1, none⟩ = some (.slice a' zs.length c') := cell_new _ _ _ (by simp) rfl
    have HB0 := Lib.hid (below_alloc w (.cells #[.slice (some ⟨rb, ro, none⟩) rows.length c, .slice a' zs.length c'] 38))
    replace x0_0 := cell_old (.cells #[.slice p ws.length q, .int .i64 b] 27) x0_0
    replace x0_1 := cell_old (.cells #[.slice p ws.length q, .int .i64 b] 27) x0_1
    have x1_0 : ((w.alloc (.cells #[.slice (some ⟨rb, ro, none⟩) rows.length c, .slice a' zs.length c'] 38)).alloc (.cells #[.slice p ws.length q, .int .i64 b] 27)).cell? ⟨w.heap.size + 1, 0, none⟩ = some (.slice p ws.length q) := cell_new _ _ _ (by simp) rfl
    have x1_1 : ((w.alloc (.cells #[.slice (some ⟨rb, ro, none⟩) rows.length c, .slice a' zs.length c'] 38)).alloc (.cells #[.slice p ws.length q, .int .i64 b] 27)).cell? ⟨w.heap.size + 1, 1, none⟩ = some (.int .i64 b) := cell_new _ _ _ (by simp) rfl
    replace HB0 := Lib.hid (HB0.out.alloc (by simp) (.cells #[.slice p ws.length q, .int .i64 b] 27))
    have s0 : w.heap.size + 2 ≤ ((w.alloc (.cells #[.slice (some ⟨rb, ro, none⟩) rows.length c, .slice a' zs.length c'] 38)).alloc (.cells #[.slice p ws.length q, .int .i64 b] 27)).heap.size := by simp
    generalize hw : ((w.alloc (.cells #[.slice (some ⟨rb, ro, none⟩) rows.length c, .slice a' zs.length c'] 38)).alloc (.cells #[.slice p ws.length q, .int .i64 b] 27)) = w0 at *
    clear hw
    have n0_0 : w.heap.size < w0.heap.size := by omega
    have n0_1 : w.heap.size + 1 < w0.heap.size := by omega
    have nrb : rb < w0.heap.size := by omega
    refine (impl_sample _ rows c a' zs c' _ (Hhr.out.below HB0.out) (Hhq.out.below HB0.out) hn hz HM.out true HS).mono ?_
    rintro e w1 ⟨rfl, hb⟩
    have s1 : w0.heap.size ≤ w1.heap.size := hb.size
    have n1_0 : w.heap.size < w1.heap.size := by omega
    have n1_1 : w.heap.size + 1 < w1.heap.size := by omega
    have n1_2 : rb < w1.heap.size := by omega
    replace x0_0 := cell_below hb x0_0 (by omega)
    replace x0_1 := cell_below hb x0_1 (by omega)
    replace x1_0 := cell_below hb x1_0 (by omega)
    replace x1_1 := cell_below hb x1_1 (by omega)
    replace hc0 := cell_below hb hc0 (by omega)
    have HB1 := Lib.hid (HB0.out.trans (hb.mono (by omega)))
    clear hb
    go_wp2_with fail
    refine (impl_plane p ws q b _ (Hhp.out.below HB1.out) hk true HP).mono ?_
    rintro e w2 ⟨rfl, hb⟩
    have s2 : w1.heap.size ≤ w2.heap.size := hb.size
    have n2_0 : w.heap.size < w2.heap.size := by omega
    have n2_1 : w.heap.size + 1 < w2.heap.size := by omega
    have n2_2 : rb < w2.heap.size := by omega
    replace x0_0 := cell_below hb x0_0 (by omega)
    replace x0_1 := cell_below hb x0_1 (by omega)
    replace x1_0 := cell_below hb x1_0 (by omega)
    replace x1_1 := cell_below hb x1_1 (by omega)
    replace hc0 := cell_below hb hc0 (by omega)
    have HB2 := Lib.hid (HB1.out.trans (hb.mono (by omega)))
    clear hb
    go_wp2_with fail
    go_quiet (fail)
    go_wp2_with fail
    go_ret
    exact ⟨rfl, ints.below_drewN HB2.out _⟩
set_option maxHeartbeats 1000000 in
theorem impl_no (a : Option Addr) (rows : List (List Int)) (c : Nat) (a' : Option Addr) (zs : List Int) (c' : Nat) (p : Option Addr) (ws : List Int) (q : Nat) (b : Int) (w : World) (hr : grid.Reads w a rows) (hq : ints.Reads .i64 w a' zs) (hp : ints.Reads .i64 w p ws) (hn : rows.length ≤ 1048576) (hz : zs.length ≤ 1048576) (hm : ∀ r ∈ rows, r.length ≤ 1048576) (hk : ws.length ≤ 1048576) (h : Hid (bothB rows zs ws b = false)) :
    Calls Try.prog 119 #[.agg #[.slice a rows.length c, .slice a' zs.length c'], .agg #[.slice p ws.length q, .int .i64 b]] w (RetIB [] false w) := by
  have Hhr := Lib.hid hr
  have Hhq := Lib.hid hq
  have Hhp := Lib.hid hp
  have Hhm := Lib.hid hm
  clear hr hq hp hm
  go_enter Try.func119, Try.ntmps119
  go_wp2_with fail
  have x0_0 : (w.alloc (.cells #[.slice a rows.length c, .slice a' zs.length c'] 38)).cell? ⟨w.heap.size, 0, none⟩ = some (.slice a rows.length c) := cell_new _ _ _ (by simp) rfl
  have x0_1 : (w.alloc (.cells #[.slice a rows.length c, .slice a' zs.length c'] 38)).cell? ⟨w.heap.size, 1, none⟩ = some (.slice a' zs.length c') := cell_new _ _ _ (by simp) rfl
  have HB0 := Lib.hid (below_alloc w (.cells #[.slice a rows.length c, .slice a' zs.length c'] 38))
  replace x0_0 := cell_old (.cells #[.slice p ws.length q, .int .i64 b] 27) x0_0
  replace x0_1 := cell_old (.cells #[.slice p ws.length q, .int .i64 b] 27) x0_1
  have x1_0 : ((w.alloc (.cells #[.slice a rows.length c, .slice a' zs.length c'] 38)).alloc (.cells #[.slice p ws.length q, .int .i64 b] 27)).cell? ⟨w.heap.size + 1, 0, none⟩ = some (.slice p ws.length q) := cell_new _ _ _ (by simp) rfl
  have x1_1 : ((w.alloc (.cells #[.slice a rows.length c, .slice a' zs.length c'] 38)).alloc (.cells #[.slice p ws.length q, .int .i64 b] 27)).cell? ⟨w.heap.size + 1, 1, none⟩ = some (.int .i64 b) := cell_new _ _ _ (by simp) rfl
  replace HB0 := Lib.hid (HB0.out.alloc (by simp) (.cells #[.slice p ws.length q, .int .i64 b] 27))
  have s0 : w.heap.size + 2 ≤ ((w.alloc (.cells #[.slice a rows.length c, .slice a' zs.length c'] 38)).alloc (.cells #[.slice p ws.length q, .int .i64 b] 27)).heap.size := by simp
  generalize hw : ((w.alloc (.cells #[.slice a rows.length c, .slice a' zs.length c'] 38)).alloc (.cells #[.slice p ws.length q, .int .i64 b] 27)) = w0 at *
  clear hw
  have n0_0 : w.heap.size < w0.heap.size := by omega
  have n0_1 : w.heap.size + 1 < w0.heap.size := by omega
  refine (impl_suits a rows c a' zs c' p ws q b _ (Hhr.out.below HB0.out) (Hhq.out.below HB0.out) (Hhp.out.below HB0.out) hn hz Hhm.out hk false h).mono ?_
  rintro e w1 ⟨rfl, hb⟩
  have s1 : w0.heap.size ≤ w1.heap.size := hb.size
  have n1_0 : w.heap.size < w1.heap.size := by omega
  have n1_1 : w.heap.size + 1 < w1.heap.size := by omega
  replace x0_0 := cell_below hb x0_0 (by omega)
  replace x0_1 := cell_below hb x0_1 (by omega)
  replace x1_0 := cell_below hb x1_0 (by omega)
  replace x1_1 := cell_below hb x1_1 (by omega)
  have HB1 := Lib.hid (HB0.out.trans (hb.mono (by omega)))
  clear hb
  go_wp2_with fail
  go_ret2
  exact ret_empty HB1.out
set_option maxRecDepth 100000 in
set_option maxHeartbeats 4000000 in
theorem impl_yes (a : Option Addr) (rows : List (List Int)) (c : Nat) (a' : Option Addr) (zs : List Int) (c' : Nat) (p : Option Addr) (ws : List Int) (q : Nat) (b : Int) (w : World) (hr : grid.Reads w a rows) (hq : ints.Reads .i64 w a' zs) (hp : ints.Reads .i64 w p ws) (hn : rows.length ≤ 1048576) (hz : zs.length ≤ 1048576) (hm : ∀ r ∈ rows, r.length ≤ 1048576) (hk : ws.length ≤ 1048576) (h : Hid (bothB rows zs ws b = true)) :
    Calls Try.prog 119 #[.agg #[.slice a rows.length c, .slice a' zs.length c'], .agg #[.slice p ws.length q, .int .i64 b]] w (RetIB (rows.map (side ws b)) true w) := by
  obtain ⟨i0, hi, hz0, hz1, hz2⟩ := info_parts infoInt
  have Hhr := Lib.hid hr
  have Hhq := Lib.hid hq
  have Hhp := Lib.hid hp
  have Hhm := Lib.hid hm
  clear hr hq hp hm
  go_enter Try.func119, Try.ntmps119
  go_wp2_with fail
  have x0_0 : (w.alloc (.cells #[.slice a rows.length c, .slice a' zs.length c'] 38)).cell? ⟨w.heap.size, 0, none⟩ = some (.slice a rows.length c) := cell_new _ _ _ (by simp) rfl
  have x0_1 : (w.alloc (.cells #[.slice a rows.length c, .slice a' zs.length c'] 38)).cell? ⟨w.heap.size, 1, none⟩ = some (.slice a' zs.length c') := cell_new _ _ _ (by simp) rfl
  have HB0 := Lib.hid (below_alloc w (.cells #[.slice a rows.length c, .slice a' zs.length c'] 38))
  replace x0_0 := cell_old (.cells #[.slice p ws.length q, .int .i64 b] 27) x0_0
  replace x0_1 := cell_old (.cells #[.slice p ws.length q, .int .i64 b] 27) x0_1
  have x1_0 : ((w.alloc (.cells #[.slice a rows.length c, .slice a' zs.length c'] 38)).alloc (.cells #[.slice p ws.length q, .int .i64 b] 27)).cell? ⟨w.heap.size + 1, 0, none⟩ = some (.slice p ws.length q) := cell_new _ _ _ (by simp) rfl
  have x1_1 : ((w.alloc (.cells #[.slice a rows.length c, .slice a' zs.length c'] 38)).alloc (.cells #[.slice p ws.length q, .int .i64 b] 27)).cell? ⟨w.heap.size + 1, 1, none⟩ = some (.int .i64 b) := cell_new _ _ _ (by simp) rfl
  replace HB0 := Lib.hid (HB0.out.alloc (by simp) (.cells #[.slice p ws.length q, .int .i64 b] 27))
  have s0 : w.heap.size + 2 ≤ ((w.alloc (.cells #[.slice a rows.length c, .slice a' zs.length c'] 38)).alloc (.cells #[.slice p ws.length q, .int .i64 b] 27)).heap.size := by simp
  generalize hw : ((w.alloc (.cells #[.slice a rows.length c, .slice a' zs.length c'] 38)).alloc (.cells #[.slice p ws.length q, .int .i64 b] 27)) = w0 at *
  clear hw
  have n0_0 : w.heap.size < w0.heap.size := by omega
  have n0_1 : w.heap.size + 1 < w0.heap.size := by omega
  refine (impl_suits a rows c a' zs c' p ws q b _ (Hhr.out.below HB0.out) (Hhq.out.below HB0.out) (Hhp.out.below HB0.out) hn hz Hhm.out hk true h).mono ?_
  rintro e w1 ⟨rfl, hb⟩
  have s1 : w0.heap.size ≤ w1.heap.size := hb.size
  have n1_0 : w.heap.size < w1.heap.size := by omega
  have n1_1 : w.heap.size + 1 < w1.heap.size := by omega
  replace x0_0 := cell_below hb x0_0 (by omega)
  replace x0_1 := cell_below hb x0_1 (by omega)
  replace x1_0 := cell_below hb x1_0 (by omega)
  replace x1_1 := cell_below hb x1_1 (by omega)
  have HB1 := Lib.hid (HB0.out.trans (hb.mono (by omega)))
  clear hb
  go_wp2_with fail
  have HF := Lib.hid (fit_of h.out).1
  have hn16 := (fit_of h.out).2
  have hown0 := (own_empty w1).1
  have hb0 := below_alloc w1 (.cells #[] 3)
  go_loopw [6, 18] (fun v i wr => ∃ (k : Nat), k ≤ rows.length ∧ i = .int .i64 k ∧ wr.ownsRow w1.heap.size 3 1 v k ((sidesTo rows ws b k).map (Value.int .i64)) ∧ Below w1.heap.size w1 wr) (fun _ i _ => rows.length - (intOf i).toNat)
  case atStart => exact ⟨0, Nat.zero_le _, rfl, hown0, hb0⟩
  case round =>
    obtain ⟨k, hk', rfl, hown, hbel⟩ := hrel
    have hvb := hown.lt
    clear hown0 hb0
    replace x0_0 := cell_below hbel x0_0 (by omega)
    replace x0_1 := cell_below hbel x0_1 (by omega)
    replace x1_0 := cell_below hbel x1_0 (by omega)
    replace x1_1 := cell_below hbel x1_1 (by omega)
    have hsz := hbel.size
    have HBl := Lib.hid hbel
    by_cases hlt : k < rows.length
    · obtain ⟨bl, off, rp, rq, hab, hbl, hc, hpq, hrow⟩ := (Hhr.out.below HB1.out).at hlt
      subst hab
      replace hc := cell_below hbel hc (by omega)
      have hFk := HF.out k hlt
      have HSn := Lib.hid (sidesTo_succ rows ws b k hlt)
      have HC := Lib.hid (impl_side p ws q b rp _ rq wr ((Hhp.out.below HB1.out).below hbel) (hrow.below hbel) hk (by omega) (by omega) hFk.2 (mid_plane ((bothB_iff _ _ _ _).1 h.out).2.1))
      have HO := Lib.hid hown
      have HV := Lib.hid hvb
      clear hown hbel hrow hpq hFk hvb
      generalize rows.getD k [] = r at *
      generalize side ws b r = s at *
      have i1 : (0 : Int) ≤ (k : Int) := by omega
      have i2 : (k : Int) < (rows.length : Int) := by omega
      go_wp2_with fail
      refine HC.out.mono ?_
      rintro e wq ⟨rfl, hb⟩
      have hoq := ownsRow_block (w' := wq) HO.out (fun g hg => hb.block g (HO.out.lt g hg).2)
      have hzq := hb.size
      have HBq := Lib.hid (HBl.out.trans (hb.mono hsz))
      clear hb
      go_wp2_with (at_builtin; refine wpList_append_own _ rfl _ _ 22 rfl w1.heap.size 3 i0 (.int .i64 0) 1 8 Try.underlying22 hi hz0 hz1 hz2 rfl (by decide) _ _ _ rfl (hoq.alloc _) ⟨wq.heap.size, 0, none⟩ 1 1 [.int .i64 s] rfl rfl (cell_one_new _ _ _) (by simp [Value.oneCell']) (by unfold maxLen; omega) (by omega) (by simp; omega) ?_; intro v' w2 hown' hgrow _)
      obtain ⟨g', cap', hv'⟩ := ownsRow_succ hown'
      subst hv'
      have HO2 := Lib.hid hown'
      have HB2 := Lib.hid ((HBq.out.alloc HBq.out.size _).grown hgrow (Nat.le_trans HBq.out.size (by simp)) (fun g e => (HV.out g e).1))
      clear hoq hown' hgrow
      go_wp2_with fail
      go_roundw
      case rel => exact ⟨k + 1, by omega, by go_num, by rw [HSn.out, List.map_append]; exact HO2.out, HB2.out⟩
      case measure => simp [intOf]; omega
    · have hk2 : k = rows.length := by omega
      have HF1 := Lib.hid (show RetIB (rows.map (side ws b)) true w (.returned (.tuple #[u6, .bool true])) wr from by
        refine ⟨u6, rfl, ?_, HB1.out.trans (hbel.mono (by omega))⟩
        have e : sidesTo rows ws b k = rows.map (side ws b) := by unfold sidesTo; rw [hk2, List.take_length]
        rw [e] at hown
        exact (OwnI.of (by simpa [hk2] using hown)).mono (by omega) (Nat.le_refl _))
      clear hown hbel hvb hk2
      go_wp2_with fail
      go_ret2
      exact HF1.out
end Go.Proofs.Ythohnnobahcdpaa.sidesof
