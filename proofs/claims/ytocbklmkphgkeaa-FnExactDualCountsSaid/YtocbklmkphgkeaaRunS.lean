/- The walks of the model's RunPerceptron and PerceptronTrace. -/
import Derived.Test.YtocbklmkphgkeaaMade
import Derived.Test.YtocbklmkphgkeaaRets
namespace Go.Proofs.Ytocbklmkphgkeaa.made
open Go.RowKit own own1 pp nums dots fill step range kept samplest samplesv planes runp
set_option linter.unusedVariables false
set_option linter.unusedSimpArgs false
attribute [local go_sem ↓] Go.wp_at_zero Go.wp_at_succ

def runB (rows : List (List Int)) (zs : List Int) (r : Int) : Bool := rnB rows zs r && okR rows zs r
theorem RM.apart3 {lo B : Nat} {w : World} {v1 v2 v3 v : Value} {vs : List Value} {PL : List (List Int × Int)} {s : List Int × Int} {TR MI : List Int} (h : RM lo B w v1 v2 v3 (vs ++ [v]) (PL ++ [s]) TR MI) (hl : vs.length = PL.length) : ∀ g, v.ownBlock = some g → v3.ownBlock ≠ some g := by
  have hp := h.2.2
  rw [itW_snoc hl] at hp
  have h3 := (List.pairwise_cons.1 (List.pairwise_cons.1 (List.pairwise_cons.1 hp).2).2).1 (itI v s.1) (by simp)
  exact fun g e1 e2 => h3 g e2 e1
set_option maxHeartbeats 1000000 in
theorem spec_run (a : Option Addr) (rows : List (List Int)) (c : Nat) (a' : Option Addr) (zs : List Int) (c' : Nat) (r : Int) (w : World) (hr : grid.Reads w a rows) (hz : ints.Reads .i64 w a' zs) (hn : rows.length ≤ 1048576) (hk : zs.length ≤ 1048576) (hm : ∀ r ∈ rows, r.length ≤ 1048576) :
    Calls Try.prog 111 #[.agg #[.slice a rows.length c, .slice a' zs.length c'], .int .i64 r] w (PostMade (runB rows zs r) (fin rows zs r) w) := by
  have bad : ∀ e w', (Below w.heap.size w w' ∧ e = .returned (.tuple #[nil3, .bool false])) → rnB rows zs r = false → PostMade (runB rows zs r) (fin rows zs r) w e w' := fun e w' h hB => by
    have : runB rows zs r = false := by unfold runB; rw [hB]; rfl
    rw [this]
    exact ⟨h.1, (fun h => by cases h), fun _ => h.2⟩
  cases hB : rnB rows zs r
  · cases h1 : sampleB rows zs
    · exact (spec_no1 a rows c a' zs c' r w hr hz hn hk hm (Lib.hid h1)).mono fun e w' h => bad e w' h hB
    · by_cases h0 : rows.length = 0
      · exact (spec_no2 a rows c a' zs c' r w hr hz hn hk hm (Lib.hid h1) h0).mono fun e w' h => bad e w' h hB
      · refine (spec_no3 a rows c a' zs c' r w hr hz hn hk hm (Lib.hid h1) (by omega) (Lib.hid ?_)).mono fun e w' h => bad e w' h hB
        cases hx : (decide (1 ≤ r) && decide (r ≤ 12))
        · rfl
        · simp only [Bool.and_eq_true, decide_eq_true_eq] at hx
          rw [(rnB_iff _ _ _).2 ⟨h1, by omega, hx.1, hx.2⟩] at hB
          cases hB
  · have : runB rows zs r = okR rows zs r := by unfold runB; rw [hB]; rfl
    rw [this]
    exact spec_made a rows c a' zs c' r w hr hz hn hk hm hB
set_option maxRecDepth 100000 in
set_option maxHeartbeats 4000000 in
theorem spec_trace_no (a : Option Addr) (rows : List (List Int)) (c : Nat) (a' : Option Addr) (zs : List Int) (c' : Nat) (r : Int) (w : World) (hr : grid.Reads w a rows) (hz : ints.Reads .i64 w a' zs) (hn : rows.length ≤ 1048576) (hk : zs.length ≤ 1048576) (hm : ∀ r ∈ rows, r.length ≤ 1048576) (h : Hid (runB rows zs r = false)) :
    Calls Try.prog 55 #[.agg #[.slice a rows.length c, .slice a' zs.length c'], .int .i64 r] w (RetIB [] false w) := by
  have HMM := Lib.hid hm
  clear hm
  have HR := h
  have Hhr := Lib.hid hr
  have Hhz := Lib.hid hz
  clear hr hz
  go_enter Try.func55, Try.ntmps55
  go_wp2_with fail
  have x0_0 : (w.alloc (.cells #[.slice a rows.length c, .slice a' zs.length c'] 27)).cell? ⟨w.heap.size, 0, none⟩ = some (.slice a rows.length c) := cell_new _ _ _ (by simp) rfl
  have x0_1 : (w.alloc (.cells #[.slice a rows.length c, .slice a' zs.length c'] 27)).cell? ⟨w.heap.size, 1, none⟩ = some (.slice a' zs.length c') := cell_new _ _ _ (by simp) rfl
  have HB0 := Lib.hid (below_alloc w (.cells #[.slice a rows.length c, .slice a' zs.length c'] 27))
  have s0 : w.heap.size + 1 ≤ (w.alloc (.cells #[.slice a rows.length c, .slice a' zs.length c'] 27)).heap.size := by simp
  generalize hw : (w.alloc (.cells #[.slice a rows.length c, .slice a' zs.length c'] 27)) = w0 at *
  clear hw
  have n0_0 : w.heap.size < w0.heap.size := by omega
  refine (spec_run a rows c a' zs c' r _ (Hhr.out.below HB0.out) (Hhz.out.below HB0.out) hn hk HMM.out).mono ?_
  rintro e w1 ⟨hb, hgood, hbad⟩
  have he := hbad HR.out
  unfold nil3 at he
  subst he
  clear hgood hbad
  have s1 : w0.heap.size ≤ w1.heap.size := hb.size
  have n1_0 : w.heap.size < w1.heap.size := by omega
  replace x0_0 := cell_below hb x0_0 (by omega)
  replace x0_1 := cell_below hb x0_1 (by omega)
  have HB1 := Lib.hid (HB0.out.trans (hb.mono (by omega)))
  clear hb
  go_wp2_with fail
  have hx9 : (w1.alloc (.cells #[.slice none 0 0, .slice none 0 0, .slice none 0 0] 117)).heap.size = w1.heap.size + 1 := by simp
  have ho9 := own_empty (w1.alloc (.cells #[.slice none 0 0, .slice none 0 0, .slice none 0 0] 117))
  rw [hx9] at ho9
  go_ret2
  exact ⟨_, rfl, ho9.mono (by omega) (by simp), (HB1.out.alloc (by omega) _).alloc (by rw [hx9]; omega) _⟩
set_option maxRecDepth 100000 in
set_option maxHeartbeats 4000000 in
theorem spec_trace_yes (a : Option Addr) (rows : List (List Int)) (c : Nat) (a' : Option Addr) (zs : List Int) (c' : Nat) (r : Int) (w : World) (hr : grid.Reads w a rows) (hz : ints.Reads .i64 w a' zs) (hn : rows.length ≤ 1048576) (hk : zs.length ≤ 1048576) (hm : ∀ r ∈ rows, r.length ≤ 1048576) (h : Hid (runB rows zs r = true)) :
    Calls Try.prog 55 #[.agg #[.slice a rows.length c, .slice a' zs.length c'], .int .i64 r] w (RetIB (fin rows zs r).tr true w) := by
  have HMM := Lib.hid hm
  clear hm
  have HR := h
  have Hhr := Lib.hid hr
  have Hhz := Lib.hid hz
  clear hr hz
  go_enter Try.func55, Try.ntmps55
  go_wp2_with fail
  have x0_0 : (w.alloc (.cells #[.slice a rows.length c, .slice a' zs.length c'] 27)).cell? ⟨w.heap.size, 0, none⟩ = some (.slice a rows.length c) := cell_new _ _ _ (by simp) rfl
  have x0_1 : (w.alloc (.cells #[.slice a rows.length c, .slice a' zs.length c'] 27)).cell? ⟨w.heap.size, 1, none⟩ = some (.slice a' zs.length c') := cell_new _ _ _ (by simp) rfl
  have HB0 := Lib.hid (below_alloc w (.cells #[.slice a rows.length c, .slice a' zs.length c'] 27))
  have s0 : w.heap.size + 1 ≤ (w.alloc (.cells #[.slice a rows.length c, .slice a' zs.length c'] 27)).heap.size := by simp
  generalize hw : (w.alloc (.cells #[.slice a rows.length c, .slice a' zs.length c'] 27)) = w0 at *
  clear hw
  have n0_0 : w.heap.size < w0.heap.size := by omega
  refine (spec_run a rows c a' zs c' r _ (Hhr.out.below HB0.out) (Hhz.out.below HB0.out) hn hk HMM.out).mono ?_
  rintro e w1 ⟨hb, hgood, hbad⟩
  obtain ⟨v1, v2, v3, v, vs, lo, B, rfl, hvl, hlo, hrm⟩ := hgood HR.out
  clear hgood hbad
  obtain ⟨g1, cap1, hv1, hg1B, hlo1, hg1w, cp0, cp1, hov⟩ := RM.last hrm hvl
  obtain ⟨p, q, hvv, _, _, _⟩ := hov.slice
  obtain ⟨p2, q2, hf2, _, _, _⟩ := (OwnI.of hrm.own2.1).slice
  obtain ⟨p3, q3, hf3, _, _, _⟩ := (OwnI.of hrm.own3.1).slice
  subst hv1 hvv hf2 hf3
  have hap := RM.apart3 hrm hvl
  have HOV := Lib.hid hov
  have HAP := Lib.hid hap
  have HRM := Lib.hid hrm
  clear hov hap hrm
  have s1 : w0.heap.size ≤ w1.heap.size := hb.size
  have n1_0 : w.heap.size < w1.heap.size := by omega
  replace x0_0 := cell_below hb x0_0 (by omega)
  replace x0_1 := cell_below hb x0_1 (by omega)
  have HB1 := Lib.hid (HB0.out.trans (hb.mono (by omega)))
  clear hb
  generalize (fin rows zs r).tr = TR at *
  generalize (fin rows zs r).mi = MI at *
  go_wp2_with fail
  go_ret2
  exact ⟨_, rfl, ((OwnI.of (HRM.out.own2.1.alloc _)).mono (by omega) (Nat.le_refl _)), HB1.out.alloc (by have := HB1.out.size; omega) _⟩
theorem end_pl (rows : List (List Int)) (zs : List Int) : ∀ (f : Nat) (s : Sta), (endRun rows zs f s).pl.length ≤ s.pl.length + f * rows.length
  | 0, s => by simp [endRun]
  | f + 1, s => by
    have h1 : (rnd rows zs s).pl.length ≤ s.pl.length + rows.length := by
      have := (tr_len rows zs s rows.length).2
      have h2 := cn_le rows zs s rows.length
      show (inn rows zs s rows.length).pl.length ≤ _
      omega
    unfold endRun
    split
    · rw [Nat.add_mul]; omega
    · have := end_pl rows zs f (rnd rows zs s)
      rw [Nat.add_mul]; omega
theorem fin_pl {rows : List (List Int)} {zs : List Int} {r : Int} (h : runB rows zs r = true) : (fin rows zs r).pl.length ≤ 200 := by
  have h1 : rnB rows zs r = true := by unfold runB at h; simp only [Bool.and_eq_true] at h; exact h.1
  obtain ⟨a1, a2, a3, a4⟩ := (rnB_iff _ _ _).1 h1
  have a5 := ((sampleB_iff _ _).1 a1).1
  have := end_pl rows zs r.toNat (ini rows)
  have h3 : r.toNat * rows.length ≤ 12 * 16 := Nat.mul_le_mul (by omega) a5
  have h4 : (ini rows).pl.length = 0 := rfl
  unfold fin
  omega
set_option maxRecDepth 100000 in
set_option maxHeartbeats 4000000 in
theorem spec_no (a : Option Addr) (rows : List (List Int)) (c : Nat) (a' : Option Addr) (zs : List Int) (c' : Nat) (r : Int) (w : World) (hr : grid.Reads w a rows) (hz : ints.Reads .i64 w a' zs) (hn : rows.length ≤ 1048576) (hk : zs.length ≤ 1048576) (hm : ∀ r ∈ rows, r.length ≤ 1048576) (h : Hid (runB rows zs r = false)) :
    Calls Try.prog 52 #[.agg #[.slice a rows.length c, .slice a' zs.length c'], .int .i64 r] w (RetPIB [] 0 [] false w) := by
  have HMM := Lib.hid hm
  clear hm
  have HR := h
  have Hhr := Lib.hid hr
  have Hhz := Lib.hid hz
  clear hr hz
  go_enter Try.func52, Try.ntmps52
  go_wp2_with fail
  have x0_0 : (w.alloc (.cells #[.slice a rows.length c, .slice a' zs.length c'] 27)).cell? ⟨w.heap.size, 0, none⟩ = some (.slice a rows.length c) := cell_new _ _ _ (by simp) rfl
  have x0_1 : (w.alloc (.cells #[.slice a rows.length c, .slice a' zs.length c'] 27)).cell? ⟨w.heap.size, 1, none⟩ = some (.slice a' zs.length c') := cell_new _ _ _ (by simp) rfl
  have HB0 := Lib.hid (below_alloc w (.cells #[.slice a rows.length c, .slice a' zs.length c'] 27))
  replace x0_0 := cell_old (.cells #[.slice none 0 0, .int .i64 0] 46) x0_0
  replace x0_1 := cell_old (.cells #[.slice none 0 0, .int .i64 0] 46) x0_1
  have x1_0 : ((w.alloc (.cells #[.slice a rows.length c, .slice a' zs.length c'] 27)).alloc (.cells #[.slice none 0 0, .int .i64 0] 46)).cell? ⟨w.heap.size + 1, 0, none⟩ = some (.slice none 0 0) := cell_new _ _ _ (by simp) rfl
  have x1_1 : ((w.alloc (.cells #[.slice a rows.length c, .slice a' zs.length c'] 27)).alloc (.cells #[.slice none 0 0, .int .i64 0] 46)).cell? ⟨w.heap.size + 1, 1, none⟩ = some (.int .i64 0) := cell_new _ _ _ (by simp) rfl
  have f1_0 : ((w.alloc (.cells #[.slice a rows.length c, .slice a' zs.length c'] 27)).alloc (.cells #[.slice none 0 0, .int .i64 0] 46)).frozen? ⟨w.heap.size + 1, 0, none⟩ = false := fro_new _ _ _ (by simp)
  have f1_1 : ((w.alloc (.cells #[.slice a rows.length c, .slice a' zs.length c'] 27)).alloc (.cells #[.slice none 0 0, .int .i64 0] 46)).frozen? ⟨w.heap.size + 1, 1, none⟩ = false := fro_new _ _ _ (by simp)
  replace HB0 := Lib.hid (HB0.out.alloc (by simp) (.cells #[.slice none 0 0, .int .i64 0] 46))
  have s0 : w.heap.size + 2 ≤ ((w.alloc (.cells #[.slice a rows.length c, .slice a' zs.length c'] 27)).alloc (.cells #[.slice none 0 0, .int .i64 0] 46)).heap.size := by simp
  generalize hw : ((w.alloc (.cells #[.slice a rows.length c, .slice a' zs.length c'] 27)).alloc (.cells #[.slice none 0 0, .int .i64 0] 46)) = w0 at *
  clear hw
  have n0_0 : w.heap.size < w0.heap.size := by omega
  have n0_1 : w.heap.size + 1 < w0.heap.size := by omega
  refine (spec_run a rows c a' zs c' r _ (Hhr.out.below HB0.out) (Hhz.out.below HB0.out) hn hk HMM.out).mono ?_
  rintro e w1 ⟨hb, hgood, hbad⟩
  have he := hbad HR.out
  unfold nil3 at he
  subst he
  clear hgood hbad
  have s1 : w0.heap.size ≤ w1.heap.size := hb.size
  have n1_0 : w.heap.size < w1.heap.size := by omega
  have n1_1 : w.heap.size + 1 < w1.heap.size := by omega
  replace x0_0 := cell_below hb x0_0 (by omega)
  replace x0_1 := cell_below hb x0_1 (by omega)
  replace x1_0 := cell_below hb x1_0 (by omega)
  replace x1_1 := cell_below hb x1_1 (by omega)
  replace f1_0 := fro_below hb f1_0 (by omega)
  replace f1_1 := fro_below hb f1_1 (by omega)
  have HB1 := Lib.hid (HB0.out.trans (hb.mono (by omega)))
  clear hb
  go_wp2_with fail
  have q0 : ((((w1.setCell ⟨w.heap.size + 1, 0, none⟩ (.slice none 0 0)).setCell ⟨w.heap.size + 1, 1, none⟩ (.int .i64 0)).alloc (.cells #[.slice none 0 0, .slice none 0 0, .slice none 0 0] 117)).alloc (.cells #[] 3)).cell? ⟨w.heap.size + 1, 0, none⟩ = some (.slice none 0 0) := (cell_old _ (cell_old _ ((World.cell?_setCell_other _ _ _ _ (by simp)).trans (World.cell?_setCell_same _ _ _ x1_0))))
  have q1 : ((((w1.setCell ⟨w.heap.size + 1, 0, none⟩ (.slice none 0 0)).setCell ⟨w.heap.size + 1, 1, none⟩ (.int .i64 0)).alloc (.cells #[.slice none 0 0, .slice none 0 0, .slice none 0 0] 117)).alloc (.cells #[] 3)).cell? ⟨w.heap.size + 1, 1, none⟩ = some (.int .i64 0) := (cell_old _ (cell_old _ (World.cell?_setCell_same _ _ _ ((World.cell?_setCell_other _ _ _ _ (by simp)).trans x1_1))))
  have hx9 : (((w1.setCell ⟨w.heap.size + 1, 0, none⟩ (.slice none 0 0)).setCell ⟨w.heap.size + 1, 1, none⟩ (.int .i64 0)).alloc (.cells #[.slice none 0 0, .slice none 0 0, .slice none 0 0] 117)).heap.size = w1.heap.size + 1 := by simp [size_set]
  have ho9 := own_empty (((w1.setCell ⟨w.heap.size + 1, 0, none⟩ (.slice none 0 0)).setCell ⟨w.heap.size + 1, 1, none⟩ (.int .i64 0)).alloc (.cells #[.slice none 0 0, .slice none 0 0, .slice none 0 0] 117))
  rw [hx9] at ho9
  refine bodyPost_ret (v := .tuple #[.agg #[.slice none 0 0, .int .i64 0], .slice (some ⟨w1.heap.size + 1, 0, none⟩) 0 0, .bool false]) (by simp [results, Try.results52, go_sem, q0, q1]) rfl ⟨_, _, rfl, OwnI.nil _ _ _, ?_, (fun g e => by simp [Value.ownBlock] at e), ?_⟩
  · exact ho9.mono (by omega) (by simp [size_set])
  · exact (((HB1.out.setCell (by simp) _).setCell (by simp) _).alloc (by rw [size_set, size_set]; omega) _).alloc (by rw [hx9]; omega) _
set_option maxRecDepth 100000 in
set_option maxHeartbeats 4000000 in
theorem spec_yes (a : Option Addr) (rows : List (List Int)) (c : Nat) (a' : Option Addr) (zs : List Int) (c' : Nat) (r : Int) (w : World) (hr : grid.Reads w a rows) (hz : ints.Reads .i64 w a' zs) (hn : rows.length ≤ 1048576) (hk : zs.length ≤ 1048576) (hm : ∀ r ∈ rows, r.length ≤ 1048576) (h : Hid (runB rows zs r = true)) :
    Calls Try.prog 52 #[.agg #[.slice a rows.length c, .slice a' zs.length c'], .int .i64 r] w (RetPIB (fin rows zs r).p.1 (fin rows zs r).p.2 (fin rows zs r).mi true w) := by
  have HMM := Lib.hid hm
  clear hm
  have HR := h
  have Hhr := Lib.hid hr
  have Hhz := Lib.hid hz
  clear hr hz
  go_enter Try.func52, Try.ntmps52
  go_wp2_with fail
  have x0_0 : (w.alloc (.cells #[.slice a rows.length c, .slice a' zs.length c'] 27)).cell? ⟨w.heap.size, 0, none⟩ = some (.slice a rows.length c) := cell_new _ _ _ (by simp) rfl
  have x0_1 : (w.alloc (.cells #[.slice a rows.length c, .slice a' zs.length c'] 27)).cell? ⟨w.heap.size, 1, none⟩ = some (.slice a' zs.length c') := cell_new _ _ _ (by simp) rfl
  have HB0 := Lib.hid (below_alloc w (.cells #[.slice a rows.length c, .slice a' zs.length c'] 27))
  replace x0_0 := cell_old (.cells #[.slice none 0 0, .int .i64 0] 46) x0_0
  replace x0_1 := cell_old (.cells #[.slice none 0 0, .int .i64 0] 46) x0_1
  have x1_0 : ((w.alloc (.cells #[.slice a rows.length c, .slice a' zs.length c'] 27)).alloc (.cells #[.slice none 0 0, .int .i64 0] 46)).cell? ⟨w.heap.size + 1, 0, none⟩ = some (.slice none 0 0) := cell_new _ _ _ (by simp) rfl
  have x1_1 : ((w.alloc (.cells #[.slice a rows.length c, .slice a' zs.length c'] 27)).alloc (.cells #[.slice none 0 0, .int .i64 0] 46)).cell? ⟨w.heap.size + 1, 1, none⟩ = some (.int .i64 0) := cell_new _ _ _ (by simp) rfl
  have f1_0 : ((w.alloc (.cells #[.slice a rows.length c, .slice a' zs.length c'] 27)).alloc (.cells #[.slice none 0 0, .int .i64 0] 46)).frozen? ⟨w.heap.size + 1, 0, none⟩ = false := fro_new _ _ _ (by simp)
  have f1_1 : ((w.alloc (.cells #[.slice a rows.length c, .slice a' zs.length c'] 27)).alloc (.cells #[.slice none 0 0, .int .i64 0] 46)).frozen? ⟨w.heap.size + 1, 1, none⟩ = false := fro_new _ _ _ (by simp)
  replace HB0 := Lib.hid (HB0.out.alloc (by simp) (.cells #[.slice none 0 0, .int .i64 0] 46))
  have s0 : w.heap.size + 2 ≤ ((w.alloc (.cells #[.slice a rows.length c, .slice a' zs.length c'] 27)).alloc (.cells #[.slice none 0 0, .int .i64 0] 46)).heap.size := by simp
  generalize hw : ((w.alloc (.cells #[.slice a rows.length c, .slice a' zs.length c'] 27)).alloc (.cells #[.slice none 0 0, .int .i64 0] 46)) = w0 at *
  clear hw
  have n0_0 : w.heap.size < w0.heap.size := by omega
  have n0_1 : w.heap.size + 1 < w0.heap.size := by omega
  refine (spec_run a rows c a' zs c' r _ (Hhr.out.below HB0.out) (Hhz.out.below HB0.out) hn hk HMM.out).mono ?_
  rintro e w1 ⟨hb, hgood, hbad⟩
  obtain ⟨v1, v2, v3, v, vs, lo, B, rfl, hvl, hlo, hrm⟩ := hgood HR.out
  clear hgood hbad
  obtain ⟨g1, cap1, hv1, hg1B, hlo1, hg1w, cp0, cp1, hov⟩ := RM.last hrm hvl
  obtain ⟨p, q, hvv, _, _, _⟩ := hov.slice
  obtain ⟨p2, q2, hf2, _, _, _⟩ := (OwnI.of hrm.own2.1).slice
  obtain ⟨p3, q3, hf3, _, _, _⟩ := (OwnI.of hrm.own3.1).slice
  subst hv1 hvv hf2 hf3
  have hap := RM.apart3 hrm hvl
  have HOV := Lib.hid hov
  have HAP := Lib.hid hap
  have HRM := Lib.hid hrm
  clear hov hap hrm
  have s1 : w0.heap.size ≤ w1.heap.size := hb.size
  have n1_0 : w.heap.size < w1.heap.size := by omega
  have n1_1 : w.heap.size + 1 < w1.heap.size := by omega
  replace x0_0 := cell_below hb x0_0 (by omega)
  replace x0_1 := cell_below hb x0_1 (by omega)
  replace x1_0 := cell_below hb x1_0 (by omega)
  replace x1_1 := cell_below hb x1_1 (by omega)
  replace f1_0 := fro_below hb f1_0 (by omega)
  replace f1_1 := fro_below hb f1_1 (by omega)
  have HB1 := Lib.hid (HB0.out.trans (hb.mono (by omega)))
  clear hb
  generalize (fin rows zs r).tr = TR at *
  generalize (fin rows zs r).mi = MI at *
  generalize hpp : (fin rows zs r).p = pp at *
  obtain ⟨ws, b⟩ := pp
  dsimp only at *
  have hmm : (fin rows zs r).pl.length ≤ 200 := fin_pl HR.out
  generalize (fin rows zs r).pl = PL at *
  generalize hm9 : PL.length = m at *
  have HM := Lib.hid hm9
  clear hm9 hpp
  rw [Nat.mul_comm] at cp0 cp1
  have i5 : (0 : Int) ≤ (m : Int) := by omega
  have i6 : (m : Int) < (m : Int) + 1 := by omega
  have e1 : IntKind.i64.wrap (m : Int) = (m : Int) := IntWalk.i64_in _ (by omega)
  go_wp2_with fail
  have y0 : (w1.alloc (.cells #[.slice (some ⟨g1, 0, none⟩) (m + 1) cap1, .slice p2 TR.length q2, .slice p3 MI.length q3] 117)).cell? ⟨w1.heap.size, 0, none⟩ = some (.slice (some ⟨g1, 0, none⟩) (m + 1) cap1) := cell_new _ _ _ rfl rfl
  have y2 : (w1.alloc (.cells #[.slice (some ⟨g1, 0, none⟩) (m + 1) cap1, .slice p2 TR.length q2, .slice p3 MI.length q3] 117)).cell? ⟨w1.heap.size, 2, none⟩ = some (.slice p3 MI.length q3) := cell_new _ _ _ rfl rfl
  replace cp0 := cell_old (.cells #[.slice (some ⟨g1, 0, none⟩) (m + 1) cap1, .slice p2 TR.length q2, .slice p3 MI.length q3] 117) cp0
  replace cp1 := cell_old (.cells #[.slice (some ⟨g1, 0, none⟩) (m + 1) cap1, .slice p2 TR.length q2, .slice p3 MI.length q3] 117) cp1
  replace x1_0 := cell_old (.cells #[.slice (some ⟨g1, 0, none⟩) (m + 1) cap1, .slice p2 TR.length q2, .slice p3 MI.length q3] 117) x1_0
  replace x1_1 := cell_old (.cells #[.slice (some ⟨g1, 0, none⟩) (m + 1) cap1, .slice p2 TR.length q2, .slice p3 MI.length q3] 117) x1_1
  have hbA := below_alloc w1 (.cells #[.slice (some ⟨g1, 0, none⟩) (m + 1) cap1, .slice p2 TR.length q2, .slice p3 MI.length q3] 117)
  have HBA := Lib.hid (HB1.out.trans (hbA.mono (by omega)))
  replace HOV := Lib.hid (HOV.out.below hbA)
  have HO3 := Lib.hid ((OwnI.of HRM.out.own3.1).below hbA)
  replace f1_0 := fro_below hbA f1_0 (by omega)
  replace f1_1 := fro_below hbA f1_1 (by omega)
  have hsA : w1.heap.size < (w1.alloc (.cells #[.slice (some ⟨g1, 0, none⟩) (m + 1) cap1, .slice p2 TR.length q2, .slice p3 MI.length q3] 117)).heap.size := by simp
  generalize (w1.alloc (.cells #[.slice (some ⟨g1, 0, none⟩) (m + 1) cap1, .slice p2 TR.length q2, .slice p3 MI.length q3] 117)) = wb at *
  clear hbA
  have hd1 : w.heap.size + 1 ≠ g1 := by omega
  refine wp_region_noPanic ?_
  refine wp_region_held_drew (S := fun w' => w'.cell? ⟨w1.heap.size, 0, none⟩ = some (.slice (some ⟨g1, 0, none⟩) (m + 1) cap1) ∧ w'.cell? ⟨w1.heap.size, 2, none⟩ = some (.slice p3 MI.length q3) ∧ w'.cell? ⟨g1, m * 2, none⟩ = some (.slice p ws.length q) ∧ w'.cell? ⟨g1, m * 2 + 1, none⟩ = some (.int .i64 b)) (by kernel_rfl) ?_ (fun hHeld => ?_)
  · exact ⟨y0, y2, cp0, cp1⟩
  refine wpAnyH_take (i := 0) (v := ?_) rfl (by kernel_rfl) (by kernel_rfl) (by kernel_rfl) (fun _ _ _ h => h) (Or.inl ⟨by rfl, ?_⟩) (by assumption) ?_
  rotate_left
  · intro w9 hSw; (try dsimp only at hSw); go_simp; try with_reducible rfl
  try simp only [List.getElem_toArray, List.getElem_cons_succ, List.getElem_cons_zero, Act.put, List.setIfInBounds_toArray, List.set_cons_zero, List.set_cons_succ]
  refine wpAnyH_take (i := 1) (v := ?_) rfl (by kernel_rfl) (by kernel_rfl) (by kernel_rfl) (fun _ _ _ h => h) (Or.inl ⟨by rfl, ?_⟩) (by assumption) ?_
  rotate_left
  · intro w9 hSw; (try dsimp only at hSw); go_simp; try with_reducible rfl
  try simp only [List.getElem_toArray, List.getElem_cons_succ, List.getElem_cons_zero, Act.put, List.setIfInBounds_toArray, List.set_cons_zero, List.set_cons_succ]
  refine wpAnyH_take (i := 2) (v := ?_) rfl (by kernel_rfl) (by kernel_rfl) (by kernel_rfl) (fun _ _ _ h => h) (Or.inl ⟨by rfl, ?_⟩) (by assumption) ?_
  rotate_left
  · intro w9 hSw; (try dsimp only at hSw); go_simp; try with_reducible rfl
  try simp only [List.getElem_toArray, List.getElem_cons_succ, List.getElem_cons_zero, Act.put, List.setIfInBounds_toArray, List.set_cons_zero, List.set_cons_succ]
  refine wpAnyH_take (i := 3) (v := ?_) rfl (by kernel_rfl) (by kernel_rfl) (by kernel_rfl) (fun _ _ _ h => h) (Or.inl ⟨by rfl, ?_⟩) (by assumption) ?_
  rotate_left
  · intro w9 hSw; (try dsimp only at hSw); go_simp; try with_reducible rfl
  try simp only [List.getElem_toArray, List.getElem_cons_succ, List.getElem_cons_zero, Act.put, List.setIfInBounds_toArray, List.set_cons_zero, List.set_cons_succ]
  refine wpAnyH_take (i := 4) (v := ?_) rfl (by kernel_rfl) (by kernel_rfl) (by kernel_rfl) (fun _ _ _ h => h) (Or.inl ⟨by rfl, ?_⟩) (by assumption) ?_
  rotate_left
  · intro w9 hSw; (try dsimp only at hSw); go_simp; try with_reducible rfl
  try simp only [List.getElem_toArray, List.getElem_cons_succ, List.getElem_cons_zero, Act.put, List.setIfInBounds_toArray, List.set_cons_zero, List.set_cons_succ]
  refine wpAnyH_take (i := 5) (v := ?_) rfl (by kernel_rfl) (by kernel_rfl) (by kernel_rfl) (fun _ _ _ h => h) (Or.inl ⟨by rfl, ?_⟩) (by assumption) ?_
  rotate_left
  · intro w9 hSw; (try dsimp only at hSw); go_simp; try with_reducible rfl
  try simp only [List.getElem_toArray, List.getElem_cons_succ, List.getElem_cons_zero, Act.put, List.setIfInBounds_toArray, List.set_cons_zero, List.set_cons_succ]
  refine wpAnyH_take (i := 6) (v := ?_) rfl (by kernel_rfl) (by kernel_rfl) (by kernel_rfl) (fun _ _ _ h => h) (Or.inl ⟨by rfl, ?_⟩) (by assumption) ?_
  rotate_left
  · intro w9 hSw; (try dsimp only at hSw); go_simp; try with_reducible rfl
  try simp only [List.getElem_toArray, List.getElem_cons_succ, List.getElem_cons_zero, Act.put, List.setIfInBounds_toArray, List.set_cons_zero, List.set_cons_succ]
  refine wpAnyH_take (i := 7) (v := ?_) rfl (by kernel_rfl) (by kernel_rfl) (by kernel_rfl) (fun _ _ _ h => h) (Or.inl ⟨by rfl, ?_⟩) (by assumption) ?_
  rotate_left
  · intro w9 hSw; (try dsimp only at hSw); go_simp; try with_reducible rfl
  try simp only [List.getElem_toArray, List.getElem_cons_succ, List.getElem_cons_zero, Act.put, List.setIfInBounds_toArray, List.set_cons_zero, List.set_cons_succ]
  refine wpAnyH_take (i := 8) (v := ?_) rfl (by kernel_rfl) (by kernel_rfl) (by kernel_rfl) (fun _ _ _ h => h) (Or.inl ⟨by rfl, ?_⟩) (by assumption) ?_
  rotate_left
  · intro w9 hSw; (try dsimp only at hSw); go_simp; try with_reducible rfl
  try simp only [List.getElem_toArray, List.getElem_cons_succ, List.getElem_cons_zero, Act.put, List.setIfInBounds_toArray, List.set_cons_zero, List.set_cons_succ]
  refine wpAnyH_take (i := 9) (v := ?_) rfl (by kernel_rfl) (by kernel_rfl) (by kernel_rfl) (fun _ _ _ h => h) (Or.inl ⟨by rfl, ?_⟩) (by assumption) ?_
  rotate_left
  · intro w9 hSw; (try dsimp only at hSw); go_simp; try with_reducible rfl
  try simp only [List.getElem_toArray, List.getElem_cons_succ, List.getElem_cons_zero, Act.put, List.setIfInBounds_toArray, List.set_cons_zero, List.set_cons_succ]
  refine wpAnyH_ready (rs := [10]) (by kernel_rfl) (by simp) ?_
  refine AllReadyH.cons rfl (fun K hK => ?_) ?_
  · go_simp
    refine hK.out _ _ ?_ (fun hHeld => ?_)
    · exact ⟨cell_set (cell_set hHeld.1 (by simp; omega) _) (by simp; omega) _, cell_set (cell_set hHeld.2.1 (by simp; omega) _) (by simp; omega) _, cell_set (cell_set hHeld.2.2.1 (by simp; omega) _) (by simp; omega) _, cell_set (cell_set hHeld.2.2.2 (by simp; omega) _) (by simp; omega) _⟩
    clear hK K
    try simp only [List.getElem_toArray, List.getElem_cons_succ, List.getElem_cons_zero, Act.put, List.setIfInBounds_toArray, List.set_cons_zero, List.set_cons_succ]
    refine wpAnyH_take (i := 11) (v := ?_) rfl (by kernel_rfl) (by kernel_rfl) (by kernel_rfl) (fun _ _ _ h => h) (Or.inl ⟨by rfl, ?_⟩) (by assumption) ?_
    rotate_left
    · intro w9 hSw; (try dsimp only at hSw); go_simp; try with_reducible rfl
    try simp only [List.getElem_toArray, List.getElem_cons_succ, List.getElem_cons_zero, Act.put, List.setIfInBounds_toArray, List.set_cons_zero, List.set_cons_succ]
    refine wpAnyH_take (i := 12) (v := ?_) rfl (by kernel_rfl) (by kernel_rfl) (by kernel_rfl) (fun _ _ _ h => h) (Or.inl ⟨by rfl, ?_⟩) (by assumption) ?_
    rotate_left
    · intro w9 hSw; (try dsimp only at hSw); go_simp; try with_reducible rfl
    try simp only [List.getElem_toArray, List.getElem_cons_succ, List.getElem_cons_zero, Act.put, List.setIfInBounds_toArray, List.set_cons_zero, List.set_cons_succ]
    refine wpAnyH_done (by kernel_rfl) ?_ _
    refine NoPanic.normal ?_
    clear hHeld
    go_wp2_with fail
    refine bodyPost_ret (v := .tuple #[.agg #[.slice p ws.length q, .int .i64 b], .slice p3 MI.length q3, .bool true]) (by simp [results, Try.results52, go_sem, x1_0, x1_1]) rfl ⟨_, _, rfl, ?_, ?_, HAP.out, ?_⟩
    · exact (((HOV.out.below (Below.refl _ _).drew).set (by simp; omega) _).set (by simp; omega) _).mono (by omega) (by first | (rw [size_set, size_set]; exact Nat.le_refl _) | (show _ ≤ (World.setCell _ _ _).heap.size; rw [size_set, size_set]; exact Nat.le_refl _) | (simp; done) | (simp; omega))
    · exact (((HO3.out.below (Below.refl _ _).drew).set (by simp; omega) _).set (by simp; omega) _).mono (by omega) (by first | (rw [size_set, size_set]; exact Nat.le_refl _) | (show _ ≤ (World.setCell _ _ _).heap.size; rw [size_set, size_set]; exact Nat.le_refl _) | (simp; done) | (simp; omega))
    · exact (HBA.out.drew.setCell (by simp) _).setCell (by simp) _
  exact AllReadyH.nil
end Go.Proofs.Ytocbklmkphgkeaa.made
