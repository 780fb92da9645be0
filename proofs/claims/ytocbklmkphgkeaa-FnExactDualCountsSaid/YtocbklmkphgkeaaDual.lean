/- The walks of DualCounts: the model's, and the program's over a contract of its trace. -/
import Derived.Test.YtocbklmkphgkeaaRunS
import Derived.Test.YtocbklmkphgkeaaWalkN
namespace Go.Proofs.Ytocbklmkphgkeaa.dualc
open Go.RowKit own own1 pp nums dots fill step range kept samplest samplesv planes runp made
set_option linter.unusedVariables false
set_option linter.unusedSimpArgs false
attribute [local go_sem ↓] Go.wp_at_zero Go.wp_at_succ

/-- How often each place stands among the first k of a list. -/
def ct (n : Nat) (TR : List Int) : Nat → List Int
  | 0 => List.replicate n 0
  | k + 1 => (ct n TR k).set (TR.getD k 0).toNat ((ct n TR k).getD (TR.getD k 0).toNat 0 + 1)
theorem ct_length (n : Nat) (TR : List Int) (k : Nat) : (ct n TR k).length = n := by
  induction k with
  | zero => simp [ct]
  | succ k ih => unfold ct; rw [List.length_set, ih]
theorem ct_bd (n : Nat) (TR : List Int) (k j : Nat) : 0 ≤ (ct n TR k).getD j 0 ∧ (ct n TR k).getD j 0 ≤ k := by
  induction k generalizing j with
  | zero =>
    unfold ct
    rw [List.getD_eq_getElem?_getD, List.getElem?_replicate]
    split <;> simp
  | succ k ih =>
    unfold ct
    have h1 := ih j
    have h2 := ih (TR.getD k 0).toNat
    rw [List.getD_eq_getElem?_getD, List.getElem?_set]
    split
    · split
      · simp only [Option.getD_some]; omega
      · simp; omega
    · rw [← List.getD_eq_getElem?_getD]; omega
theorem inn_tr {rows : List (List Int)} (zs : List Int) (s : Sta) (hs : ∀ x ∈ s.tr, 0 ≤ x ∧ x < (rows.length : Int)) (k : Nat) (hk : k ≤ rows.length) : ∀ x ∈ (inn rows zs s k).tr, 0 ≤ x ∧ x < (rows.length : Int) := by
  induction k with
  | zero => exact hs
  | succ k ih =>
    unfold inn
    split
    · exact ih (by omega)
    · intro x hx
      rcases List.mem_append.1 hx with hx | hx
      · exact ih (by omega) x hx
      · obtain rfl := List.mem_singleton.1 hx
        omega
theorem end_tr (rows : List (List Int)) (zs : List Int) : ∀ (f : Nat) (s : Sta), (∀ x ∈ s.tr, 0 ≤ x ∧ x < (rows.length : Int)) → (∀ x ∈ (endRun rows zs f s).tr, 0 ≤ x ∧ x < (rows.length : Int)) ∧ (endRun rows zs f s).tr.length ≤ s.tr.length + f * rows.length
  | 0, s, h => ⟨h, by simp [endRun]⟩
  | f + 1, s, h => by
    have h1 := inn_tr zs s h rows.length (Nat.le_refl _)
    have h2 := (tr_len rows zs s rows.length).1
    have h3 := cn_le rows zs s rows.length
    have h4 : (rnd rows zs s).tr = (inn rows zs s rows.length).tr := rfl
    unfold endRun
    split
    · refine ⟨by rw [h4]; exact h1, ?_⟩
      rw [h4, Nat.add_mul]; omega
    · have h5 := end_tr rows zs f (rnd rows zs s) (by rw [h4]; exact h1)
      refine ⟨h5.1, ?_⟩
      have := h5.2
      rw [h4] at this
      rw [Nat.add_mul]; omega
theorem fin_tr {rows : List (List Int)} {zs : List Int} {r : Int} (h : runB rows zs r = true) : (fin rows zs r).tr.length ≤ 192 ∧ rows.length ≤ 16 ∧ ∀ k, k < (fin rows zs r).tr.length → 0 ≤ (fin rows zs r).tr.getD k 0 ∧ (fin rows zs r).tr.getD k 0 < (rows.length : Int) := by
  have h1 : rnB rows zs r = true := by unfold runB at h; simp only [Bool.and_eq_true] at h; exact h.1
  obtain ⟨a1, a2, a3, a4⟩ := (rnB_iff _ _ _).1 h1
  have a5 := ((sampleB_iff _ _).1 a1).1
  obtain ⟨b1, b2⟩ := end_tr rows zs r.toNat (ini rows) (fun x hx => by simp [ini, init] at hx)
  have h3 : r.toNat * rows.length ≤ 12 * 16 := Nat.mul_le_mul (by omega) a5
  have h4 : (ini rows).tr.length = 0 := rfl
  refine ⟨by unfold fin; omega, a5, fun k hk => b1 _ (getD_mem _ 0 k hk)⟩
def dual (rows : List (List Int)) (zs : List Int) (r : Int) : List Int := ct rows.length (fin rows zs r).tr (fin rows zs r).tr.length
set_option maxRecDepth 100000 in
set_option maxHeartbeats 4000000 in
theorem spec_no (a : Option Addr) (rows : List (List Int)) (c : Nat) (a' : Option Addr) (zs : List Int) (c' : Nat) (r : Int) (w : World) (hr : grid.Reads w a rows) (hz : ints.Reads .i64 w a' zs) (hn : rows.length ≤ 1048576) (hk : zs.length ≤ 1048576) (hm : ∀ r ∈ rows, r.length ≤ 1048576) (h : Hid (runB rows zs r = false)) :
    Calls Try.prog 57 #[.agg #[.slice a rows.length c, .slice a' zs.length c'], .int .i64 r] w (RetIB [] false w) := by
  have HMM := Lib.hid hm
  clear hm
  have HR := h
  have Hhr := Lib.hid hr
  have Hhz := Lib.hid hz
  clear hr hz
  go_enter Try.func57, Try.ntmps57
  go_wp2_with fail
  have x0_0 : (w.alloc (.cells #[.slice a rows.length c, .slice a' zs.length c'] 27)).cell? ⟨w.heap.size, 0, none⟩ = some (.slice a rows.length c) := cell_new _ _ _ (by simp) rfl
  have x0_1 : (w.alloc (.cells #[.slice a rows.length c, .slice a' zs.length c'] 27)).cell? ⟨w.heap.size, 1, none⟩ = some (.slice a' zs.length c') := cell_new _ _ _ (by simp) rfl
  have HB0 := Lib.hid (below_alloc w (.cells #[.slice a rows.length c, .slice a' zs.length c'] 27))
  have s0 : w.heap.size + 1 ≤ (w.alloc (.cells #[.slice a rows.length c, .slice a' zs.length c'] 27)).heap.size := by simp
  generalize hw : (w.alloc (.cells #[.slice a rows.length c, .slice a' zs.length c'] 27)) = w0 at *
  clear hw
  have n0_0 : w.heap.size < w0.heap.size := by omega
  refine (spec_run a rows c a' zs c' r _ (Hhr.out.below HB0.out) (Hhz.out.below HB0.out) hn hk HMM.out).mono ?_
  rintro e w1 ⟨hb, hgood, hbad⟩
  have he := hbad HR.out
  unfold nil3 at he
  subst he
  clear hgood hbad
  have s1 : w0.heap.size ≤ w1.heap.size := hb.size
  have n1_0 : w.heap.size < w1.heap.size := by omega
  replace x0_0 := cell_below hb x0_0 (by omega)
  replace x0_1 := cell_below hb x0_1 (by omega)
  have HB1 := Lib.hid (HB0.out.trans (hb.mono (by omega)))
  clear hb
  go_wp2_with fail
  have hx9 : (w1.alloc (.cells #[.slice none 0 0, .slice none 0 0, .slice none 0 0] 117)).heap.size = w1.heap.size + 1 := by simp
  have ho9 := own_empty (w1.alloc (.cells #[.slice none 0 0, .slice none 0 0, .slice none 0 0] 117))
  rw [hx9] at ho9
  go_ret2
  exact ⟨_, rfl, ho9.mono (by omega) (by simp), (HB1.out.alloc (by omega) _).alloc (by rw [hx9]; omega) _⟩
set_option maxRecDepth 100000 in
set_option maxHeartbeats 4000000 in
theorem spec_yes (a : Option Addr) (rows : List (List Int)) (c : Nat) (a' : Option Addr) (zs : List Int) (c' : Nat) (r : Int) (w : World) (hr : grid.Reads w a rows) (hz : ints.Reads .i64 w a' zs) (hn : rows.length ≤ 1048576) (hk : zs.length ≤ 1048576) (hm : ∀ r ∈ rows, r.length ≤ 1048576) (h : Hid (runB rows zs r = true)) :
    Calls Try.prog 57 #[.agg #[.slice a rows.length c, .slice a' zs.length c'], .int .i64 r] w (RetIB (dual rows zs r) true w) := by
  have HMM := Lib.hid hm
  clear hm
  obtain ⟨i0, hi, hz0, hz1, hz2⟩ := info_parts own1.infoInt
  have HR := h
  unfold dual
  have Hhr := Lib.hid hr
  have Hhz := Lib.hid hz
  clear hr hz
  go_enter Try.func57, Try.ntmps57
  go_wp2_with fail
  have x0_0 : (w.alloc (.cells #[.slice a rows.length c, .slice a' zs.length c'] 27)).cell? ⟨w.heap.size, 0, none⟩ = some (.slice a rows.length c) := cell_new _ _ _ (by simp) rfl
  have x0_1 : (w.alloc (.cells #[.slice a rows.length c, .slice a' zs.length c'] 27)).cell? ⟨w.heap.size, 1, none⟩ = some (.slice a' zs.length c') := cell_new _ _ _ (by simp) rfl
  have HB0 := Lib.hid (below_alloc w (.cells #[.slice a rows.length c, .slice a' zs.length c'] 27))
  have s0 : w.heap.size + 1 ≤ (w.alloc (.cells #[.slice a rows.length c, .slice a' zs.length c'] 27)).heap.size := by simp
  generalize hw : (w.alloc (.cells #[.slice a rows.length c, .slice a' zs.length c'] 27)) = w0 at *
  clear hw
  have n0_0 : w.heap.size < w0.heap.size := by omega
  refine (spec_run a rows c a' zs c' r _ (Hhr.out.below HB0.out) (Hhz.out.below HB0.out) hn hk HMM.out).mono ?_
  rintro e w1 ⟨hb, hgood, hbad⟩
  obtain ⟨v1, v2, v3, v, vs, lo, B, rfl, hvl, hlo, hrm⟩ := hgood HR.out
  clear hgood hbad
  obtain ⟨g1, cap1, hv1, hg1B, hlo1, hg1w, cp0, cp1, hov⟩ := RM.last hrm hvl
  obtain ⟨p, q, hvv, _, _, _⟩ := hov.slice
  obtain ⟨p2, q2, hf2, _, _, _⟩ := (OwnI.of hrm.own2.1).slice
  obtain ⟨p3, q3, hf3, _, _, _⟩ := (OwnI.of hrm.own3.1).slice
  subst hv1 hvv hf2 hf3
  have hap := RM.apart3 hrm hvl
  have HOV := Lib.hid hov
  have HAP := Lib.hid hap
  have HRM := Lib.hid hrm
  clear hov hap hrm
  have s1 : w0.heap.size ≤ w1.heap.size := hb.size
  have n1_0 : w.heap.size < w1.heap.size := by omega
  replace x0_0 := cell_below hb x0_0 (by omega)
  replace x0_1 := cell_below hb x0_1 (by omega)
  have HB1 := Lib.hid (HB0.out.trans (hb.mono (by omega)))
  clear hb
  have HTB := Lib.hid (fin_tr HR.out)
  have HTR := Lib.hid (OwnI.of HRM.out.own2.1).reads
  have hr16 := HTB.out.2.1
  generalize (fin rows zs r).tr = TR at *
  generalize (fin rows zs r).mi = MI at *
  generalize (fin rows zs r).pl.length = m at *
  go_wp2_with (refine wpList_make_full _ rfl _ _ 23 rfl w1.heap.size 3 i0 (.int .i64 0) 1 Try.underlying23 hi hz0 hz1 .i64 .i64 _ _ rows.length rfl rfl rfl rfl (by rw [hz2]; omega) (by unfold maxLen; omega) (by simp) ?_; intro w3 hown1 hgrow1; refine Hid.out ?_)
  refine Lib.hid ?_
  have hb3 : Below w1.heap.size w1 w3 := ((below_alloc w1 (.cells #[.slice (some ⟨g1, 0, none⟩) (m + 1) cap1, .slice p2 TR.length q2, .slice p3 MI.length q3] 117))).grown hgrow1 (by simp) (by simp)
  rw [show (Value.int .i64 0).cells = #[Value.int .i64 0] from rfl, Nat.mul_one, toList_madeCells_one] at hown1
  have HO3 := Lib.hid (show w3.ownsRow w1.heap.size 3 1 (.slice (some ⟨w1.heap.size + 1, 0, none⟩) rows.length rows.length) rows.length ((ct rows.length TR 0).map (Value.int .i64)) from by unfold ct; rw [List.map_replicate]; simpa using hown1)
  have HBX := Lib.hid (show w3.cell? ⟨w1.heap.size, 1, none⟩ = some (.slice p2 TR.length q2) from hgrow1.cell (cell_new _ _ _ rfl rfl) (by simp))
  have HB3 := Lib.hid hb3
  clear hown1 hgrow1 hb3
  have c1 := HBX.out
  go_wp2_with fail
  clear c1
  go_loopw [9] (fun i wr => ∃ k : Nat, k ≤ TR.length ∧ i = .int .i64 k ∧ Hid (wr.ownsRow w1.heap.size 3 1 (.slice (some ⟨w1.heap.size + 1, 0, none⟩) rows.length rows.length) rows.length ((ct rows.length TR k).map (Value.int .i64))) ∧ Hid (wr.cell? ⟨w1.heap.size, 1, none⟩ = some (.slice p2 TR.length q2)) ∧ Hid (Below w1.heap.size w1 wr)) (fun i _ => TR.length - (intOf i).toNat)
  case atStart => exact ⟨0, Nat.zero_le _, rfl, HO3, HBX, HB3⟩
  case round =>
    obtain ⟨k, hk9, rfl, HOw, HBx, HBl⟩ := hrel
    have hbel := HBl.out
    have c1 := HBx.out
    by_cases hlt : k < TR.length
    · obtain ⟨tb, to, htb, htl, htc⟩ := HTR.out.at hlt
      subst htb
      replace htc := cell_below hbel htc htl
      obtain ⟨j0, j1⟩ := HTB.out.2.2 k hlt
      obtain ⟨p, hp⟩ : ∃ p : Nat, TR.getD k 0 = (p : Int) := ⟨(TR.getD k 0).toNat, by omega⟩
      have hpl : p < rows.length := by omega
      have HSN := Lib.hid (show ct rows.length TR (k + 1) = (ct rows.length TR k).set p ((ct rows.length TR k).getD p 0 + 1) from by show (ct rows.length TR k).set (TR.getD k 0).toNat _ = _; rw [hp]; rfl)
      have hcb := ct_bd rows.length TR k p
      have HCL := Lib.hid (ct_length rows.length TR k)
      rw [hp] at htc
      have hkb := HTB.out.1
      have hr16 := HTB.out.2.1
      clear hp j0 j1
      have hcell : wr.cell? ⟨w1.heap.size + 1, p, none⟩ = some (.int .i64 ((ct rows.length TR k).getD p 0)) := by
        rw [HOw.out.cellAt p (by omega)]
        rw [List.getElem?_map, List.getD_eq_getElem?_getD, List.getElem?_eq_getElem (by rw [HCL.out]; exact hpl)]
        rfl
      have hfro := HOw.out.frozenAt p
      have hst := HOw.out.stored p (.int .i64 ((ct rows.length TR k).getD p 0 + 1))
      rw [show ((ct rows.length TR k).map (Value.int .i64)).set p (Value.int .i64 ((ct rows.length TR k).getD p 0 + 1)) = ((ct rows.length TR k).set p ((ct rows.length TR k).getD p 0 + 1)).map (Value.int .i64) from by rw [List.map_set]] at hst
      have HST := Lib.hid hst
      clear hst
      generalize (ct rows.length TR k).getD p 0 = x at *
      have e1 : IntKind.i64.wrap (x + 1) = x + 1 := IntWalk.i64_in _ (by omega)
      have i1 : (0 : Int) ≤ (k : Int) := by omega
      have i2 : (k : Int) < (TR.length : Int) := by omega
      have i3 : (0 : Int) ≤ (p : Int) := by omega
      have i4 : (p : Int) < (rows.length : Int) := by omega
      clear hcb hbel
      go_wp2_with fail
      go_roundw
      case rel => exact ⟨k + 1, by omega, by go_num, Lib.hid (by rw [HSN.out]; exact HST.out.1), Lib.hid (cell_set HBx.out (by simp) _), Lib.hid (HBl.out.setCell (by simp) _)⟩
      case measure => simp [intOf]; omega
    · obtain rfl : k = TR.length := by omega
      have HF9 := Lib.hid (show RetIB (ct rows.length TR TR.length) true w (.returned (.tuple #[.slice (some ⟨w1.heap.size + 1, 0, none⟩) rows.length rows.length, .bool true])) wr from ⟨_, rfl, (OwnI.of (by rw [ct_length]; exact HOw.out)).mono (by omega) (Nat.le_refl _), HB1.out.trans (hbel.mono (by omega))⟩)
      clear hbel
      go_wp2_with fail
      go_ret2
      exact HF9.out
set_option maxRecDepth 100000 in
set_option maxHeartbeats 4000000 in
theorem impl_no_of (a : Option Addr) (rows : List (List Int)) (c : Nat) (a' : Option Addr) (zs : List Int) (c' : Nat) (r : Int) (w : World) (hr : grid.Reads w a rows) (hz : ints.Reads .i64 w a' zs) (hn : rows.length ≤ 1048576) (hk : zs.length ≤ 1048576) (hm : ∀ r ∈ rows, r.length ≤ 1048576) (HT : Hid (∀ W : World, Below w.heap.size w W → Calls Try.prog 56 #[.agg #[.slice a rows.length c, .slice a' zs.length c'], .int .i64 r] W (RetIB [] false W))) :
    Calls Try.prog 58 #[.agg #[.slice a rows.length c, .slice a' zs.length c'], .int .i64 r] w (RetIB [] false w) := by
  have HMM := Lib.hid hm
  clear hm
  have Hhr := Lib.hid hr
  have Hhz := Lib.hid hz
  clear hr hz
  go_enter Try.func58, Try.ntmps58
  go_wp2_with fail
  have x0_0 : (w.alloc (.cells #[.slice a rows.length c, .slice a' zs.length c'] 27)).cell? ⟨w.heap.size, 0, none⟩ = some (.slice a rows.length c) := cell_new _ _ _ (by simp) rfl
  have x0_1 : (w.alloc (.cells #[.slice a rows.length c, .slice a' zs.length c'] 27)).cell? ⟨w.heap.size, 1, none⟩ = some (.slice a' zs.length c') := cell_new _ _ _ (by simp) rfl
  have HB0 := Lib.hid (below_alloc w (.cells #[.slice a rows.length c, .slice a' zs.length c'] 27))
  have s0 : w.heap.size + 1 ≤ (w.alloc (.cells #[.slice a rows.length c, .slice a' zs.length c'] 27)).heap.size := by simp
  generalize hw : (w.alloc (.cells #[.slice a rows.length c, .slice a' zs.length c'] 27)) = w0 at *
  clear hw
  have n0_0 : w.heap.size < w0.heap.size := by omega
  refine (HT.out _ HB0.out).mono ?_
  rintro e w1 ⟨v, rfl, ho, hb⟩
  have s1 : w0.heap.size ≤ w1.heap.size := hb.size
  have n1_0 : w.heap.size < w1.heap.size := by omega
  replace x0_0 := cell_below hb x0_0 (by omega)
  replace x0_1 := cell_below hb x0_1 (by omega)
  have HB1 := Lib.hid (HB0.out.trans (hb.mono (by omega)))
  clear hb
  go_wp2_with fail
  go_ret2
  exact ⟨_, rfl, (own_empty w1).mono (by omega) (by simp), HB1.out.alloc (by omega) _⟩
set_option maxRecDepth 100000 in
set_option maxHeartbeats 4000000 in
theorem impl_yes_of (a : Option Addr) (rows : List (List Int)) (c : Nat) (a' : Option Addr) (zs : List Int) (c' : Nat) (r : Int) (w : World) (hr : grid.Reads w a rows) (hz : ints.Reads .i64 w a' zs) (hn : rows.length ≤ 1048576) (hk : zs.length ≤ 1048576) (hm : ∀ r ∈ rows, r.length ≤ 1048576) (h : runB rows zs r = true) (HT : Hid (∀ W : World, Below w.heap.size w W → Calls Try.prog 56 #[.agg #[.slice a rows.length c, .slice a' zs.length c'], .int .i64 r] W (RetIB (fin rows zs r).tr true W))) :
    Calls Try.prog 58 #[.agg #[.slice a rows.length c, .slice a' zs.length c'], .int .i64 r] w (RetIB (dual rows zs r) true w) := by
  have HMM := Lib.hid hm
  clear hm
  obtain ⟨i0, hi, hz0, hz1, hz2⟩ := info_parts own1.infoInt
  have HTB := Lib.hid (fin_tr h)
  unfold dual
  clear h
  have Hhr := Lib.hid hr
  have Hhz := Lib.hid hz
  clear hr hz
  go_enter Try.func58, Try.ntmps58
  go_wp2_with fail
  have x0_0 : (w.alloc (.cells #[.slice a rows.length c, .slice a' zs.length c'] 27)).cell? ⟨w.heap.size, 0, none⟩ = some (.slice a rows.length c) := cell_new _ _ _ (by simp) rfl
  have x0_1 : (w.alloc (.cells #[.slice a rows.length c, .slice a' zs.length c'] 27)).cell? ⟨w.heap.size, 1, none⟩ = some (.slice a' zs.length c') := cell_new _ _ _ (by simp) rfl
  have HB0 := Lib.hid (below_alloc w (.cells #[.slice a rows.length c, .slice a' zs.length c'] 27))
  have s0 : w.heap.size + 1 ≤ (w.alloc (.cells #[.slice a rows.length c, .slice a' zs.length c'] 27)).heap.size := by simp
  generalize hw : (w.alloc (.cells #[.slice a rows.length c, .slice a' zs.length c'] 27)) = w0 at *
  clear hw
  have n0_0 : w.heap.size < w0.heap.size := by omega
  refine (HT.out _ HB0.out).mono ?_
  rintro e w1 ⟨v, rfl, ho, hb⟩
  obtain ⟨p2, q2, rfl, _, _, _⟩ := ho.slice
  have HTR := Lib.hid ho.reads
  clear ho
  have s1 : w0.heap.size ≤ w1.heap.size := hb.size
  have n1_0 : w.heap.size < w1.heap.size := by omega
  replace x0_0 := cell_below hb x0_0 (by omega)
  replace x0_1 := cell_below hb x0_1 (by omega)
  have HB1 := Lib.hid (HB0.out.trans (hb.mono (by omega)))
  clear hb
  have hr16 := HTB.out.2.1
  generalize (fin rows zs r).tr = TR at *
  go_wp2_with (refine wpList_make_full _ rfl _ _ 23 rfl w1.heap.size 3 i0 (.int .i64 0) 1 Try.underlying23 hi hz0 hz1 .i64 .i64 _ _ rows.length rfl rfl rfl rfl (by rw [hz2]; omega) (by unfold maxLen; omega) (by simp) ?_; intro w3 hown1 hgrow1; refine Hid.out ?_)
  refine Lib.hid ?_
  have hb3 : Below w1.heap.size w1 w3 := (Below.refl _ _).grown hgrow1 (Nat.le_refl _) (by simp)
  rw [show (Value.int .i64 0).cells = #[Value.int .i64 0] from rfl, Nat.mul_one, toList_madeCells_one] at hown1
  have HO3 := Lib.hid (show w3.ownsRow w1.heap.size 3 1 (.slice (some ⟨w1.heap.size, 0, none⟩) rows.length rows.length) rows.length ((ct rows.length TR 0).map (Value.int .i64)) from by unfold ct; rw [List.map_replicate]; simpa using hown1)
  have HBX := Lib.hid trivial
  have HB3 := Lib.hid hb3
  clear hown1 hgrow1 hb3
  go_wp2_with fail
  go_loopw [26] (fun i wr => ∃ k : Nat, k ≤ TR.length ∧ i = .int .i64 k ∧ Hid (wr.ownsRow w1.heap.size 3 1 (.slice (some ⟨w1.heap.size, 0, none⟩) rows.length rows.length) rows.length ((ct rows.length TR k).map (Value.int .i64))) ∧ Hid (True) ∧ Hid (Below w1.heap.size w1 wr)) (fun i _ => TR.length - (intOf i).toNat)
  case atStart => exact ⟨0, Nat.zero_le _, rfl, HO3, HBX, HB3⟩
  case round =>
    obtain ⟨k, hk9, rfl, HOw, HBx, HBl⟩ := hrel
    have hbel := HBl.out
    by_cases hlt : k < TR.length
    · obtain ⟨tb, to, htb, htl, htc⟩ := HTR.out.at hlt
      subst htb
      replace htc := cell_below hbel htc htl
      obtain ⟨j0, j1⟩ := HTB.out.2.2 k hlt
      obtain ⟨p, hp⟩ : ∃ p : Nat, TR.getD k 0 = (p : Int) := ⟨(TR.getD k 0).toNat, by omega⟩
      have hpl : p < rows.length := by omega
      have HSN := Lib.hid (show ct rows.length TR (k + 1) = (ct rows.length TR k).set p ((ct rows.length TR k).getD p 0 + 1) from by show (ct rows.length TR k).set (TR.getD k 0).toNat _ = _; rw [hp]; rfl)
      have hcb := ct_bd rows.length TR k p
      have HCL := Lib.hid (ct_length rows.length TR k)
      rw [hp] at htc
      have hkb := HTB.out.1
      have hr16 := HTB.out.2.1
      clear hp j0 j1
      have hcell : wr.cell? ⟨w1.heap.size, p, none⟩ = some (.int .i64 ((ct rows.length TR k).getD p 0)) := by
        rw [HOw.out.cellAt p (by omega)]
        rw [List.getElem?_map, List.getD_eq_getElem?_getD, List.getElem?_eq_getElem (by rw [HCL.out]; exact hpl)]
        rfl
      have hfro := HOw.out.frozenAt p
      have hst := HOw.out.stored p (.int .i64 ((ct rows.length TR k).getD p 0 + 1))
      rw [show ((ct rows.length TR k).map (Value.int .i64)).set p (Value.int .i64 ((ct rows.length TR k).getD p 0 + 1)) = ((ct rows.length TR k).set p ((ct rows.length TR k).getD p 0 + 1)).map (Value.int .i64) from by rw [List.map_set]] at hst
      have HST := Lib.hid hst
      clear hst
      generalize (ct rows.length TR k).getD p 0 = x at *
      have e1 : IntKind.i64.wrap (x + 1) = x + 1 := IntWalk.i64_in _ (by omega)
      have i1 : (0 : Int) ≤ (k : Int) := by omega
      have i2 : (k : Int) < (TR.length : Int) := by omega
      have i3 : (0 : Int) ≤ (p : Int) := by omega
      have i4 : (p : Int) < (rows.length : Int) := by omega
      clear hcb hbel
      go_wp2_with fail
      go_roundw
      case rel => exact ⟨k + 1, by omega, by go_num, Lib.hid (by rw [HSN.out]; exact HST.out.1), HBx, Lib.hid (HBl.out.setCell (by simp) _)⟩
      case measure => simp [intOf]; omega
    · obtain rfl : k = TR.length := by omega
      have HF9 := Lib.hid (show RetIB (ct rows.length TR TR.length) true w (.returned (.tuple #[.slice (some ⟨w1.heap.size, 0, none⟩) rows.length rows.length, .bool true])) wr from ⟨_, rfl, (OwnI.of (by rw [ct_length]; exact HOw.out)).mono (by omega) (Nat.le_refl _), HB1.out.trans (hbel.mono (by omega))⟩)
      clear hbel
      go_wp2_with fail
      go_ret2
      exact HF9.out
end Go.Proofs.Ytocbklmkphgkeaa.dualc
