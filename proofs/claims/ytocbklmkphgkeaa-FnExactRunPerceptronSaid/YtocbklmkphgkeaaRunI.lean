/- The walk of the program's RunPerceptron. -/
import Derived.Test.YtocbklmkphgkeaaWalkN
namespace Go.Proofs.Ytocbklmkphgkeaa.walkr
open Go.RowKit own own1 pp nums dots fill step range kept samplest samplesv planes runp made
set_option linter.unusedVariables false
set_option linter.unusedSimpArgs false
attribute [local go_sem ↓] Go.wp_at_zero Go.wp_at_succ
theorem run_yes (a : Option Addr) (rows : List (List Int)) (c : Nat) (a' : Option Addr) (zs : List Int) (c' : Nat) (r : Int) (w : World) (hr : grid.Reads w a rows) (hz : ints.Reads .i64 w a' zs) (hn : rows.length ≤ 1048576) (hk : zs.length ≤ 1048576) (hm : ∀ r ∈ rows, r.length ≤ 1048576) (h : runB rows zs r = true) :
    Calls Try.prog 112 #[.agg #[.slice a rows.length c, .slice a' zs.length c'], .int .i64 r, .func (.func 113) #[] #[]] w (RetPIB (fin rows zs r).p.1 (fin rows zs r).p.2 (fin rows zs r).mi true w) := by
  have h' : rnB rows zs r = true ∧ okR rows zs r = true := by simpa [runB] using h
  exact (run_main a rows c a' zs c' r w hr hz hn hk hm h'.1).mono fun e w' h2 => h2.1 h'.2
theorem run_no (a : Option Addr) (rows : List (List Int)) (c : Nat) (a' : Option Addr) (zs : List Int) (c' : Nat) (r : Int) (w : World) (hr : grid.Reads w a rows) (hz : ints.Reads .i64 w a' zs) (hn : rows.length ≤ 1048576) (hk : zs.length ≤ 1048576) (hm : ∀ r ∈ rows, r.length ≤ 1048576) (h : runB rows zs r = false) :
    Calls Try.prog 112 #[.agg #[.slice a rows.length c, .slice a' zs.length c'], .int .i64 r, .func (.func 113) #[] #[]] w (RetPIB [] 0 [] false w) := by
  cases hB : rnB rows zs r
  · cases h1 : margin.hpB rows zs
    · exact run_no1 a rows c a' zs c' r w hr hz hn hk hm (Lib.hid h1)
    · by_cases h0 : r < 1
      · exact run_no2 a rows c a' zs c' r w hr hz hn hk hm (Lib.hid h1) h0
      · by_cases h2 : 12 < r
        · exact run_no3 a rows c a' zs c' r w hr hz hn hk hm (Lib.hid h1) h0 h2
        · have h3 := (margin.hpB_iff _ _).1 h1
          rw [(rnB_iff _ _ _).2 ⟨h3.1, h3.2, by omega, by omega⟩] at hB
          cases hB
  · refine (run_main a rows c a' zs c' r w hr hz hn hk hm hB).mono fun e w' h2 => h2.2 ?_
    rw [runB, hB] at h
    simpa using h
set_option maxRecDepth 100000 in
set_option maxHeartbeats 4000000 in
theorem impl_no (a : Option Addr) (rows : List (List Int)) (c : Nat) (a' : Option Addr) (zs : List Int) (c' : Nat) (r : Int) (w : World) (hr : grid.Reads w a rows) (hz : ints.Reads .i64 w a' zs) (hn : rows.length ≤ 1048576) (hk : zs.length ≤ 1048576) (hm : ∀ r ∈ rows, r.length ≤ 1048576) (h : runB rows zs r = false) :
    Calls Try.prog 53 #[.agg #[.slice a rows.length c, .slice a' zs.length c'], .int .i64 r] w (RetPIB [] 0 [] false w) := by
  have HMM := Lib.hid hm
  clear hm
  have HR := Lib.hid h
  clear h
  have Hhr := Lib.hid hr
  have Hhz := Lib.hid hz
  clear hr hz
  go_enter Try.func53, Try.ntmps53
  go_wp2_with fail
  have x0_0 : (w.alloc (.cells #[.slice a rows.length c, .slice a' zs.length c'] 27)).cell? ⟨w.heap.size, 0, none⟩ = some (.slice a rows.length c) := cell_new _ _ _ (by simp) rfl
  have x0_1 : (w.alloc (.cells #[.slice a rows.length c, .slice a' zs.length c'] 27)).cell? ⟨w.heap.size, 1, none⟩ = some (.slice a' zs.length c') := cell_new _ _ _ (by simp) rfl
  have HB0 := Lib.hid (below_alloc w (.cells #[.slice a rows.length c, .slice a' zs.length c'] 27))
  replace x0_0 := cell_old (.cells #[.slice none 0 0, .int .i64 0] 46) x0_0
  replace x0_1 := cell_old (.cells #[.slice none 0 0, .int .i64 0] 46) x0_1
  have x1_0 : ((w.alloc (.cells #[.slice a rows.length c, .slice a' zs.length c'] 27)).alloc (.cells #[.slice none 0 0, .int .i64 0] 46)).cell? ⟨w.heap.size + 1, 0, none⟩ = some (.slice none 0 0) := cell_new _ _ _ (by simp) rfl
  have x1_1 : ((w.alloc (.cells #[.slice a rows.length c, .slice a' zs.length c'] 27)).alloc (.cells #[.slice none 0 0, .int .i64 0] 46)).cell? ⟨w.heap.size + 1, 1, none⟩ = some (.int .i64 0) := cell_new _ _ _ (by simp) rfl
  have f1_0 : ((w.alloc (.cells #[.slice a rows.length c, .slice a' zs.length c'] 27)).alloc (.cells #[.slice none 0 0, .int .i64 0] 46)).frozen? ⟨w.heap.size + 1, 0, none⟩ = false := fro_new _ _ _ (by simp)
  have f1_1 : ((w.alloc (.cells #[.slice a rows.length c, .slice a' zs.length c'] 27)).alloc (.cells #[.slice none 0 0, .int .i64 0] 46)).frozen? ⟨w.heap.size + 1, 1, none⟩ = false := fro_new _ _ _ (by simp)
  replace HB0 := Lib.hid (HB0.out.alloc (by simp) (.cells #[.slice none 0 0, .int .i64 0] 46))
  have s0 : w.heap.size + 2 ≤ ((w.alloc (.cells #[.slice a rows.length c, .slice a' zs.length c'] 27)).alloc (.cells #[.slice none 0 0, .int .i64 0] 46)).heap.size := by simp
  generalize hw : ((w.alloc (.cells #[.slice a rows.length c, .slice a' zs.length c'] 27)).alloc (.cells #[.slice none 0 0, .int .i64 0] 46)) = w0 at *
  clear hw
  have n0_0 : w.heap.size < w0.heap.size := by omega
  have n0_1 : w.heap.size + 1 < w0.heap.size := by omega
  refine (run_no a rows c a' zs c' r _ (Hhr.out.below HB0.out) (Hhz.out.below HB0.out) hn hk HMM.out HR.out).mono ?_
  rintro e w1 ⟨v, u, rfl, ho, ho2, hap, hb⟩
  obtain ⟨p1, q1, rfl, _, _, _⟩ := ho.slice
  obtain ⟨p2, q2, rfl, _, _, _⟩ := ho2.slice
  have HO := Lib.hid ho
  have HO2 := Lib.hid ho2
  have HAP := Lib.hid hap
  clear ho ho2 hap
  have s1 : w0.heap.size ≤ w1.heap.size := hb.size
  have n1_0 : w.heap.size < w1.heap.size := by omega
  have n1_1 : w.heap.size + 1 < w1.heap.size := by omega
  replace x0_0 := cell_below hb x0_0 (by omega)
  replace x0_1 := cell_below hb x0_1 (by omega)
  replace x1_0 := cell_below hb x1_0 (by omega)
  replace x1_1 := cell_below hb x1_1 (by omega)
  replace f1_0 := fro_below hb f1_0 (by omega)
  replace f1_1 := fro_below hb f1_1 (by omega)
  have HB1 := Lib.hid (HB0.out.trans (hb.mono (by omega)))
  clear hb
  go_wp2_with fail
  refine bodyPost_ret (v := .tuple #[.agg #[.slice p1 0 q1, .int .i64 0], .slice p2 0 q2, .bool false]) (by simp [results, Try.results53, go_sem, x1_0, x1_1]) rfl ⟨_, _, rfl, ?_, ?_, HAP.out, ?_⟩
  · simp only [size_set]; exact ((HO.out.set (by simp; omega) _).set (by simp; omega) _).mono (by omega) (Nat.le_refl _)
  · simp only [size_set]; exact ((HO2.out.set (by simp; omega) _).set (by simp; omega) _).mono (by omega) (Nat.le_refl _)
  · exact (HB1.out.setCell (by simp) _).setCell (by simp) _
set_option maxRecDepth 100000 in
set_option maxHeartbeats 4000000 in
theorem impl_yes (a : Option Addr) (rows : List (List Int)) (c : Nat) (a' : Option Addr) (zs : List Int) (c' : Nat) (r : Int) (w : World) (hr : grid.Reads w a rows) (hz : ints.Reads .i64 w a' zs) (hn : rows.length ≤ 1048576) (hk : zs.length ≤ 1048576) (hm : ∀ r ∈ rows, r.length ≤ 1048576) (h : runB rows zs r = true) :
    Calls Try.prog 53 #[.agg #[.slice a rows.length c, .slice a' zs.length c'], .int .i64 r] w (RetPIB (fin rows zs r).p.1 (fin rows zs r).p.2 (fin rows zs r).mi true w) := by
  have HMM := Lib.hid hm
  clear hm
  have HR := Lib.hid h
  clear h
  have Hhr := Lib.hid hr
  have Hhz := Lib.hid hz
  clear hr hz
  go_enter Try.func53, Try.ntmps53
  go_wp2_with fail
  have x0_0 : (w.alloc (.cells #[.slice a rows.length c, .slice a' zs.length c'] 27)).cell? ⟨w.heap.size, 0, none⟩ = some (.slice a rows.length c) := cell_new _ _ _ (by simp) rfl
  have x0_1 : (w.alloc (.cells #[.slice a rows.length c, .slice a' zs.length c'] 27)).cell? ⟨w.heap.size, 1, none⟩ = some (.slice a' zs.length c') := cell_new _ _ _ (by simp) rfl
  have HB0 := Lib.hid (below_alloc w (.cells #[.slice a rows.length c, .slice a' zs.length c'] 27))
  replace x0_0 := cell_old (.cells #[.slice none 0 0, .int .i64 0] 46) x0_0
  replace x0_1 := cell_old (.cells #[.slice none 0 0, .int .i64 0] 46) x0_1
  have x1_0 : ((w.alloc (.cells #[.slice a rows.length c, .slice a' zs.length c'] 27)).alloc (.cells #[.slice none 0 0, .int .i64 0] 46)).cell? ⟨w.heap.size + 1, 0, none⟩ = some (.slice none 0 0) := cell_new _ _ _ (by simp) rfl
  have x1_1 : ((w.alloc (.cells #[.slice a rows.length c, .slice a' zs.length c'] 27)).alloc (.cells #[.slice none 0 0, .int .i64 0] 46)).cell? ⟨w.heap.size + 1, 1, none⟩ = some (.int .i64 0) := cell_new _ _ _ (by simp) rfl
  have f1_0 : ((w.alloc (.cells #[.slice a rows.length c, .slice a' zs.length c'] 27)).alloc (.cells #[.slice none 0 0, .int .i64 0] 46)).frozen? ⟨w.heap.size + 1, 0, none⟩ = false := fro_new _ _ _ (by simp)
  have f1_1 : ((w.alloc (.cells #[.slice a rows.length c, .slice a' zs.length c'] 27)).alloc (.cells #[.slice none 0 0, .int .i64 0] 46)).frozen? ⟨w.heap.size + 1, 1, none⟩ = false := fro_new _ _ _ (by simp)
  replace HB0 := Lib.hid (HB0.out.alloc (by simp) (.cells #[.slice none 0 0, .int .i64 0] 46))
  have s0 : w.heap.size + 2 ≤ ((w.alloc (.cells #[.slice a rows.length c, .slice a' zs.length c'] 27)).alloc (.cells #[.slice none 0 0, .int .i64 0] 46)).heap.size := by simp
  generalize hw : ((w.alloc (.cells #[.slice a rows.length c, .slice a' zs.length c'] 27)).alloc (.cells #[.slice none 0 0, .int .i64 0] 46)) = w0 at *
  clear hw
  have n0_0 : w.heap.size < w0.heap.size := by omega
  have n0_1 : w.heap.size + 1 < w0.heap.size := by omega
  refine (run_yes a rows c a' zs c' r _ (Hhr.out.below HB0.out) (Hhz.out.below HB0.out) hn hk HMM.out HR.out).mono ?_
  rintro e w1 ⟨v, u, rfl, ho, ho2, hap, hb⟩
  obtain ⟨p1, q1, rfl, _, _, _⟩ := ho.slice
  obtain ⟨p2, q2, rfl, _, _, _⟩ := ho2.slice
  have HO := Lib.hid ho
  have HO2 := Lib.hid ho2
  have HAP := Lib.hid hap
  clear ho ho2 hap
  generalize hzz : (fin rows zs r).p.1 = zz at *
  generalize hyy : (fin rows zs r).mi = yy at *
  clear hzz hyy
  have s1 : w0.heap.size ≤ w1.heap.size := hb.size
  have n1_0 : w.heap.size < w1.heap.size := by omega
  have n1_1 : w.heap.size + 1 < w1.heap.size := by omega
  replace x0_0 := cell_below hb x0_0 (by omega)
  replace x0_1 := cell_below hb x0_1 (by omega)
  replace x1_0 := cell_below hb x1_0 (by omega)
  replace x1_1 := cell_below hb x1_1 (by omega)
  replace f1_0 := fro_below hb f1_0 (by omega)
  replace f1_1 := fro_below hb f1_1 (by omega)
  have HB1 := Lib.hid (HB0.out.trans (hb.mono (by omega)))
  clear hb
  go_wp2_with fail
  refine bodyPost_ret (v := .tuple #[.agg #[.slice p1 zz.length q1, .int .i64 (fin rows zs r).p.2], .slice p2 yy.length q2, .bool true]) (by simp [results, Try.results53, go_sem, x1_0, x1_1]) rfl ⟨_, _, rfl, ?_, ?_, HAP.out, ?_⟩
  · simp only [size_set]; exact ((HO.out.set (by simp; omega) _).set (by simp; omega) _).mono (by omega) (Nat.le_refl _)
  · simp only [size_set]; exact ((HO2.out.set (by simp; omega) _).set (by simp; omega) _).mono (by omega) (Nat.le_refl _)
  · exact (HB1.out.setCell (by simp) _).setCell (by simp) _
theorem end_len (rows : List (List Int)) (zs : List Int) : ∀ (f : Nat) (s : Sta), (endRun rows zs f s).mi.length ≤ s.mi.length + f ∧ (endRun rows zs f s).p.1.length = s.p.1.length
  | 0, s => by simp [endRun]
  | f + 1, s => by
    have h1 : (rnd rows zs s).mi.length = s.mi.length + 1 := by simp [rnd]
    have h2 : (rnd rows zs s).p.1.length = s.p.1.length := inn_len rows zs s rows.length
    unfold endRun
    split
    · exact ⟨by omega, h2⟩
    · have := end_len rows zs f (rnd rows zs s)
      exact ⟨by omega, by omega⟩
theorem fin_len {rows : List (List Int)} {zs : List Int} {r : Int} (h : runB rows zs r = true) : (fin rows zs r).mi.length ≤ 12 ∧ (fin rows zs r).p.1.length ≤ 4 := by
  have h1 : rnB rows zs r = true := by unfold runB at h; simp only [Bool.and_eq_true] at h; exact h.1
  obtain ⟨a1, a2, a3, a4⟩ := (rnB_iff _ _ _).1 h1
  obtain ⟨b1, b2⟩ := end_len rows zs r.toNat (ini rows)
  have b3 : (ini rows).mi.length = 0 := rfl
  have b4 : (ini rows).p.1.length = (rows.getD 0 []).length := by simp [ini, init]
  have b5 := (rf_of h1).1.dim.2
  unfold fin
  exact ⟨by omega, by omega⟩
end Go.Proofs.Ytocbklmkphgkeaa.walkr
