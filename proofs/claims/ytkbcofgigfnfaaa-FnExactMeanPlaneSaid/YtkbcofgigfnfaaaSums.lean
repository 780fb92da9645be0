/- The walks of the sums of a certificate: the model's and the program's. -/
import Derived.Test.YtkbcofgigfnfaaaFill
import Derived.Test.YtkbcofgigfnfaaaOwn1
import Derived.Test.YtkbcofgigfnfaaaSamplesT
import Derived.Test.YtkbcofgigfnfaaaRange
import Derived.Test.YtkbcofgigfnfaaaSetCell
import Derived.Deep.RegionHeld3
import Derived.Deep.DrawnRows
import Derived.StillTailTactics
namespace Go.Proofs.Ytkbcofgigfnfaaa.sums
open Go.RowKit own own1 pp nums fill range samplest samplesv
set_option linter.unusedVariables false
set_option linter.unusedSimpArgs false
attribute [local go_sem ↓] Go.wp_at_zero Go.wp_at_succ

/-- What the point i gives to the j-th sum. -/
def coAt (rows : List (List Int)) (i j : Nat) : Int := if j = 0 then 1 else (rows.getD i []).getD (j - 1) 0
/-- The j-th sum over the first k points with a label: of their numbers, and of their coordinates times their numbers. -/
def sumAt (rows : List (List Int)) (zs ls : List Int) (y : Int) : Nat → Nat → Int
  | 0, _ => 0
  | k + 1, j => if zs.getD k 0 = y then sumAt rows zs ls y k j + ls.getD k 0 * coAt rows k j else sumAt rows zs ls y k j
def sumsTo (rows : List (List Int)) (zs ls : List Int) (y : Int) (d k : Nat) : List Int := (List.range (d + 1)).map (sumAt rows zs ls y k)
theorem sums_length (rows : List (List Int)) (zs ls : List Int) (y : Int) (d k : Nat) : (sumsTo rows zs ls y d k).length = d + 1 := by simp [sumsTo]
theorem sums_getD (rows : List (List Int)) (zs ls : List Int) (y : Int) (d k j : Nat) (h : j < d + 1) : (sumsTo rows zs ls y d k).getD j 0 = sumAt rows zs ls y k j := by
  rw [List.getD_eq_getElem?_getD]; simp [sumsTo, h]
theorem sums_zero (rows : List (List Int)) (zs ls : List Int) (y : Int) (d : Nat) : sumsTo rows zs ls y d 0 = List.replicate (d + 1) 0 := by
  apply List.ext_getElem
  · simp [sumsTo]
  · intro i h1 h2
    simp [sumsTo, sumAt]
theorem sums_skip (rows : List (List Int)) (zs ls : List Int) (y : Int) (d k : Nat) (h : zs.getD k 0 ≠ y) : sumsTo rows zs ls y d (k + 1) = sumsTo rows zs ls y d k := by
  unfold sumsTo
  apply List.map_congr_left
  intro i _
  rw [sumAt, if_neg h]
theorem sum_bd (rows : List (List Int)) (zs ls : List Int) (y : Int) (j : Nat) (k : Nat) (hl : ∀ i, i < k → 0 ≤ ls.getD i 0 ∧ ls.getD i 0 ≤ 1000000000) (hc : ∀ i, i < k → -9 ≤ coAt rows i j ∧ coAt rows i j ≤ 9) :
    -(9000000000 * (k : Int)) ≤ sumAt rows zs ls y k j ∧ sumAt rows zs ls y k j ≤ 9000000000 * (k : Int) := by
  induction k with
  | zero => simp [sumAt]
  | succ k ih =>
    have h1 := ih (fun i hi => hl i (by omega)) (fun i hi => hc i (by omega))
    have h2 := hl k (by omega)
    have h3 := hc k (by omega)
    have h4 := mul_bd (A := 1000000000) (B := 9) (x := ls.getD k 0) (y := coAt rows k j) (by omega) h2.2 h3.1 h3.2
    unfold sumAt
    split <;> omega

structure SF (rows : List (List Int)) (zs ls : List Int) (d : Nat) : Prop where
  n16 : rows.length ≤ 16
  pos : 0 < rows.length
  zl : zs.length = rows.length
  ll : ls.length = rows.length
  len : ∀ i, i < rows.length → (rows.getD i []).length = d
  d4 : 1 ≤ d ∧ d ≤ 4
  co : ∀ i j, i < rows.length → j < d + 1 → -9 ≤ coAt rows i j ∧ coAt rows i j ≤ 9
  lb : ∀ i, i < rows.length → 0 ≤ ls.getD i 0 ∧ ls.getD i 0 ≤ 1000000000
theorem SF.of {rows : List (List Int)} {zs ls : List Int} (h : sampleB rows zs = true) (h0 : 0 < rows.length) (hl : ls.length = rows.length) (hL : numsR 0 1000000000 ls = true) : SF rows zs ls (rows.getD 0 []).length := by
  obtain ⟨s1, s2, s3, s4⟩ := (sampleB_iff _ _).1 h
  have hr : ∀ k, k < rows.length → pointB (rows.getD k []) = true ∧ (rows.getD k []).length = (rows.getD 0 []).length := by
    intro k hk
    have := all_at _ [] rows s4 k hk
    simpa using this
  have p0 := (pointB_iff _).1 (hr 0 h0).1
  refine ⟨s1, h0, s2, hl, fun i hi => (hr i hi).2, ⟨p0.1, p0.2.1⟩, fun i j hi hj => ?_, fun i hi => numsR_at hL i (by omega)⟩
  unfold coAt
  split
  · omega
  · exact numsB_at ((pointB_iff _).1 (hr i hi).1).2.2 (j - 1) (by rw [(hr i hi).2]; omega)
theorem co_zero (rows : List (List Int)) (i : Nat) : coAt rows i 0 = 1 := rfl
theorem co_succ (rows : List (List Int)) (i j : Nat) : coAt rows i (j + 1) = (rows.getD i []).getD j 0 := rfl
theorem sum_hit {rows : List (List Int)} {zs ls : List Int} {y : Int} {k : Nat} (h : zs.getD k 0 = y) (j : Nat) : sumAt rows zs ls y (k + 1) j = sumAt rows zs ls y k j + ls.getD k 0 * coAt rows k j := if_pos h
set_option maxRecDepth 100000 in
set_option maxHeartbeats 4000000 in
theorem spec_sums (a : Option Addr) (rows : List (List Int)) (c : Nat) (a' : Option Addr) (zs : List Int) (c' : Nat) (p : Option Addr) (ls : List Int) (q : Nat) (y : Int) (w : World) (hr : grid.Reads w a rows) (hz : ints.Reads .i64 w a' zs) (hq : ints.Reads .i64 w p ls) (hS : SF rows zs ls (rows.getD 0 []).length) :
    Calls Try.prog 89 #[.agg #[.slice a rows.length c, .slice a' zs.length c'], .slice p ls.length q, .int .i64 y] w (intfns.Made (sumsTo rows zs ls y (rows.getD 0 []).length rows.length) w) := by
  obtain ⟨i0, hi, hz0, hz1, hz2⟩ := info_parts infoInt
  have Hhr := Lib.hid hr
  have Hhz := Lib.hid hz
  have Hhq := Lib.hid hq
  have HhS := Lib.hid hS
  clear hr hz hq hS
  have x0_0 : (w.alloc (.cells #[.slice a rows.length c, .slice a' zs.length c'] 29)).cell? ⟨w.heap.size, 0, none⟩ = some (.slice a rows.length c) := cell_new _ _ _ (by simp) rfl
  have x0_1 : (w.alloc (.cells #[.slice a rows.length c, .slice a' zs.length c'] 29)).cell? ⟨w.heap.size, 1, none⟩ = some (.slice a' zs.length c') := cell_new _ _ _ (by simp) rfl
  have HB0 := Lib.hid (below_alloc w (.cells #[.slice a rows.length c, .slice a' zs.length c'] 29))
  have s0 : w.heap.size + 1 ≤ (w.alloc (.cells #[.slice a rows.length c, .slice a' zs.length c'] 29)).heap.size := by simp
  generalize hw : (w.alloc (.cells #[.slice a rows.length c, .slice a' zs.length c'] 29)) = w0 at *
  have HW := Lib.hid hw
  clear hw
  have n0_0 : w.heap.size < w0.heap.size := by omega
  have EW : w.heap.size + 1 = w0.heap.size := by rw [← HW.out]; simp
  obtain ⟨bl, off, rp0, rq0, hab, hbl, hc0, _, _⟩ := (Hhr.out.below HB0.out).at HhS.out.pos
  subst hab
  rw [Nat.add_zero] at hc0
  have HD4 := Lib.hid HhS.out.d4
  have HR0 := Lib.hid (show (rows.getD 0 []).length = (rows.getD 0 []).length from rfl)
  have HX := Lib.hid (show w0.cell? ⟨w.heap.size, 0, none⟩ = some (.slice (some ⟨bl, off, none⟩) rows.length c) ∧ w0.cell? ⟨w.heap.size, 1, none⟩ = some (.slice a' zs.length c') from ⟨x0_0, x0_1⟩)
  have hpos := HhS.out.pos
  have h16 := HhS.out.n16
  have i0' : (0 : Int) < (rows.length : Int) := by omega
  generalize hr0 : rows.getD 0 [] = r0 at *
  have hd4 := HD4.out
  have ed : IntKind.i64.wrap ((r0.length : Int) + 1) = (r0.length : Int) + 1 := IntWalk.i64_in _ (by omega)
  have hc9 := hc0
  rw [← HW.out] at hc9
  go_enter Try.func89, Try.ntmps89
  go_wp2_with (refine wpList_make_full _ rfl _ _ 23 rfl w0.heap.size 3 i0 (.int .i64 0) 1 Try.underlying23 hi hz0 hz1 .i64 .i64 ((r0.length : Int) + 1) ((r0.length : Int) + 1) (r0.length + 1) rfl rfl (by omega) (by omega) (by rw [hz2]; omega) (by unfold maxLen; omega) (by first | exact Nat.le_refl _ | (rw [← HW.out]; exact Nat.le_refl _)) ?_; intro w1 hown1 hgrow1; refine Hid.out ?_)
  refine Lib.hid ?_
  rw [HW.out] at hgrow1 hown1
  have hb1 : Below w0.heap.size w0 w1 := (Below.refl _ _).grown hgrow1 (Nat.le_refl _) (by simp)
  rw [show (Value.int .i64 0).cells = #[Value.int .i64 0] from rfl, Nat.mul_one, toList_madeCells_one] at hown1
  have HO1 := Lib.hid (show w1.ownsRow w0.heap.size 3 1 (.slice (some ⟨w0.heap.size, 0, none⟩) (r0.length + 1) (r0.length + 1)) (r0.length + 1) ((sumsTo rows zs ls y r0.length 0).map (Value.int .i64)) from by rw [sums_zero, List.map_replicate]; exact hown1)
  have HB1 := Lib.hid hb1
  have x0_0' := cell_below hb1 HX.out.1 (by omega)
  clear hown1 hgrow1 hb1 hc9 hc0 x0_0 x0_1 EW ed
  replace x0_0 := x0_0'
  clear x0_0'
  go_wp2_with fail
  clear x0_0
  go_loopw [8] (fun i wr => ∃ k : Nat, k ≤ rows.length ∧ i = .int .i64 k ∧ wr.ownsRow w0.heap.size 3 1 (.slice (some ⟨w0.heap.size, 0, none⟩) (r0.length + 1) (r0.length + 1)) (r0.length + 1) ((sumsTo rows zs ls y r0.length k).map (Value.int .i64)) ∧ Below w0.heap.size w0 wr) (fun i _ => rows.length - (intOf i).toNat)
  case atStart => exact ⟨0, Nat.zero_le _, rfl, HO1.out, HB1.out⟩
  case round =>
    obtain ⟨k, hk, rfl, hown, hbel⟩ := hrel
    clear HO1 HB1
    have HO := Lib.hid hown
    have HBl := Lib.hid hbel
    by_cases hlt : k < rows.length
    · obtain ⟨bl', off', rp, rq, hab, hbl', hc, hpq, hrow⟩ := (Hhr.out.below HB0.out).at hlt
      obtain ⟨rfl, rfl⟩ : bl = bl' ∧ off = off' := by cases hab; exact ⟨rfl, rfl⟩
      obtain ⟨lb, lo, hlb, hll, hlc⟩ := (Hhz.out.below HB0.out).at (k := k) (by have := HhS.out.zl; omega)
      subst hlb
      obtain ⟨qb, qo, hqb, hql, hqc⟩ := (Hhq.out.below HB0.out).at (k := k) (by have := HhS.out.ll; omega)
      subst hqb
      have hc0 := hc
      have hqc0 := hqc
      have x0_0 := cell_below hbel HX.out.1 (by omega)
      have x0_1 := cell_below hbel HX.out.2 (by omega)
      replace hc := cell_below hbel hc (by omega)
      replace hlc := cell_below hbel hlc (by omega)
      replace hqc := cell_below hbel hqc (by omega)
      have i1 : (0 : Int) ≤ (k : Int) := by omega
      have i2 : (k : Int) < (rows.length : Int) := by omega
      have i3 : (k : Int) < (zs.length : Int) := by have := HhS.out.zl; omega
      have i4 : (k : Int) < (ls.length : Int) := by have := HhS.out.ll; omega
      by_cases hy : zs.getD k 0 = y
      · have hrl := HhS.out.len k hlt
        have HRL := Lib.hid hrl
        have HC0 := Lib.hid (show w0.cell? ⟨bl, off + k, none⟩ = some (.slice rp (rows.getD k []).length rq) ∧ w0.cell? ⟨qb, qo + k, none⟩ = some (.int .i64 (ls.getD k 0)) ∧ bl < w0.heap.size ∧ qb < w0.heap.size from ⟨hc0, hqc0, hbl', hql⟩)
        have HROW := Lib.hid hrow
        have HSB := Lib.hid (fun j (hj : j < r0.length + 1) => sum_bd rows zs ls y j k (fun i hi => HhS.out.lb i (by omega)) (fun i hi => HhS.out.co i j (by omega) hj))
        have HSH := Lib.hid (fun j => sum_hit (rows := rows) (ls := ls) hy j)
        have HCO := Lib.hid (show ∀ j, j < r0.length → -9 ≤ (rows.getD k []).getD j 0 ∧ (rows.getD k []).getD j 0 ≤ 9 from fun j (hj : j < r0.length) => HhS.out.co k (j + 1) hlt (by omega))
        have HCS := Lib.hid (show ∀ j, coAt rows k (j + 1) = (rows.getD k []).getD j 0 from fun j => rfl)
        have hbl0 := HhS.out.lb k hlt
        have HN := Lib.hid (sums_length rows zs ls y r0.length k)
        have hpf := hown
        rw [← pf_zero (sumAt rows zs ls y (k + 1)) (sumsTo rows zs ls y r0.length k)] at hpf
        have hcell := pf_cellN HN.out hpf (by omega)
        have hfro := hpf.frozenAt 0
        rw [sums_getD _ _ _ _ _ _ _ (by omega)] at hcell
        have hs0 := HSB.out 0 (by omega)
        have HST := Lib.hid (pf_storeN HN.out hpf (by omega) (sumAt rows zs ls y k 0 + ls.getD k 0) (by rw [HSH.out 0, co_zero, Int.mul_one]))
        have HALL := Lib.hid (show pf (sumAt rows zs ls y (k + 1)) (sumsTo rows zs ls y r0.length k) (r0.length + 1) = sumsTo rows zs ls y r0.length (k + 1) from by have := pf_all (sumAt rows zs ls y (k + 1)) (sumsTo rows zs ls y r0.length k); rw [HN.out] at this; exact this)
        rw [hy] at hlc
        clear hown hpf hbel hrow hpq hab hc0 hqc0 hy hrl
        obtain ⟨l, hl⟩ : ∃ l, l = ls.getD k 0 := ⟨_, rfl⟩
        obtain ⟨s, hs⟩ : ∃ s, s = sumAt rows zs ls y k 0 := ⟨_, rfl⟩
        rw [← hl] at hqc hbl0 HC0 HST HSH
        rw [← hs] at hcell hs0 HST
        have e1 : IntKind.i64.wrap (s + l) = s + l := IntWalk.i64_in _ (by omega)
        have HLk := Lib.hid hl
        clear hl hs
        generalize rows.getD k [] = rk at *
        go_wp2_with fail
        go_still_tail 9, (by kernel_rfl)
        go_wp2_with fail
        obtain ⟨wo, hwo⟩ : ∃ wo : World, wo = (wr.setCell ⟨w0.heap.size, 0, none⟩ (.int .i64 (s + l))).drew := ⟨_, rfl⟩
        have HBW := Lib.hid (show Below w0.heap.size w0 wo from by rw [hwo]; exact (HBl.out.setCell (by simp) _).drew)
        have HOW := Lib.hid (show wo.ownsRow w0.heap.size 3 1 (.slice (some ⟨w0.heap.size, 0, none⟩) (r0.length + 1) (r0.length + 1)) (r0.length + 1) ((pf (sumAt rows zs ls y (k + 1)) (sumsTo rows zs ls y r0.length k) 1).map (Value.int .i64)) from by rw [hwo]; exact HST.out)
        rw [← hwo]
        clear hwo hcell hfro HST x0_0 x0_1 hc hlc hqc HO HBl e1 hs0
        go_loopw [9] (fun j wq => ∃ m : Nat, m ≤ r0.length ∧ j = .int .i64 m ∧ wq.ownsRow w0.heap.size 3 1 (.slice (some ⟨w0.heap.size, 0, none⟩) (r0.length + 1) (r0.length + 1)) (r0.length + 1) ((pf (sumAt rows zs ls y (k + 1)) (sumsTo rows zs ls y r0.length k) (m + 1)).map (Value.int .i64)) ∧ Below w0.heap.size w0 wq) (fun j _ => r0.length - (intOf j).toNat)
        case atStart => exact ⟨0, Nat.zero_le _, rfl, HOW.out, HBW.out⟩
        case round =>
          obtain ⟨m, hm, rfl, hown, hbel⟩ := hrel
          clear HOW HBW
          have HBq := Lib.hid hbel
          have x0_0 := cell_below hbel HX.out.1 (by omega)
          have hcq := cell_below hbel HC0.out.1 HC0.out.2.2.1
          have hqq := cell_below hbel HC0.out.2.1 HC0.out.2.2.2
          by_cases hmt : m < r0.length
          · obtain ⟨rb, ro, hrb, hrl, hrc⟩ := HROW.out.at (k := m) (by have := HRL.out; omega)
            subst hrb
            replace hrc := cell_below hbel hrc (by omega)
            have hcell := pf_cellN HN.out hown (by omega)
            have hfro := hown.frozenAt (m + 1)
            rw [sums_getD _ _ _ _ _ _ _ (by omega)] at hcell
            have hsb := HSB.out (m + 1) (by omega)
            have hco := HCO.out m hmt
            have HST := Lib.hid (pf_storeN HN.out hown (by omega) (sumAt rows zs ls y k (m + 1) + l * rk.getD m 0) (by rw [HSH.out (m + 1), HCS.out m]))
            have j1 : (0 : Int) ≤ (m : Int) := by omega
            have j2 : (m : Int) < (rk.length : Int) := by have := HRL.out; omega
            have j3 : (m : Int) + 1 < (r0.length : Int) + 1 := by omega
            have j4 : (m : Int) < (r0.length : Int) := by omega
            have j5 : (0 : Int) ≤ (m : Int) + 1 := by omega
            have j6 : (m : Int) + 1 < (r0.length : Int) + 1 := by omega
            clear hown hbel
            generalize rk.getD m 0 = x at *
            generalize sumAt rows zs ls y k (m + 1) = s' at *
            have hmu := mul_bd (A := 1000000000) (B := 9) (x := l) (y := x) (by omega) (by omega) hco.1 hco.2
            have e2 : IntKind.i64.wrap (l * x) = l * x := IntWalk.i64_in _ (by omega)
            have e3 : IntKind.i64.wrap (s' + l * x) = s' + l * x := IntWalk.i64_in _ (by omega)
            have e4 : IntKind.i64.wrap ((m : Int) + 1) = (m : Int) + 1 := IntWalk.i64_in _ (by omega)
            have e5 : ((m : Int) + 1).toNat = m + 1 := by omega
            have e6 : (1 + (m : Int)).toNat = m + 1 := by omega
            have HRL2 := HRL
            clear hmu hsb hco
            go_wp2_with fail
            go_still_tail 22, (by kernel_rfl)
            go_wp2_with fail
            go_roundw
            case rel => exact ⟨m + 1, by omega, by go_num, HST.out, (HBq.out.setCell (by simp) _).drew⟩
            case measure => simp [intOf]; omega
          · obtain rfl : m = r0.length := by omega
            have HO2 := Lib.hid hown
            have j4 : ¬ ((r0.length : Int) < (rk.length : Int)) := by have := HRL.out; omega
            clear hown hbel
            go_wp2_with fail
            go_roundw
            case rel => exact ⟨k + 1, by omega, by go_num, by rw [← HALL.out]; exact HO2.out, HBq.out⟩
            case measure => simp [intOf]; omega
      · have HSK := Lib.hid (sums_skip rows zs ls y r0.length k hy)
        have g1 : (zs.getD k 0 != y) = true := by rw [bne_iff_ne]; exact hy
        clear hown hbel hrow hpq hab hc0 hqc0 hy hqc
        generalize zs.getD k 0 = zk at *
        generalize rows.getD k [] = rk at *
        go_wp2_with fail
        go_roundw
        case rel => exact ⟨k + 1, by omega, by go_num, by rw [HSK.out]; exact HO.out, HBl.out⟩
        case measure => simp [intOf]; omega
    · obtain rfl : k = rows.length := by omega
      have x0_0 := cell_below hbel HX.out.1 (by omega)
      have HRET := Lib.hid (show intfns.Made (sumsTo rows zs ls y r0.length rows.length) w (.returned (.slice (some ⟨w0.heap.size, 0, none⟩) (r0.length + 1) (r0.length + 1))) wr from ⟨_, rfl, (OwnI.of (by rw [sums_length]; exact hown)).mono (by omega) (Nat.le_refl _), HB0.out.trans (hbel.mono (by omega))⟩)
      clear hown hbel
      go_wp2_with fail
      go_ret
      exact HRET.out
set_option maxRecDepth 100000 in
set_option maxHeartbeats 4000000 in
theorem impl_sums (a : Option Addr) (rows : List (List Int)) (c : Nat) (a' : Option Addr) (zs : List Int) (c' : Nat) (p : Option Addr) (ls : List Int) (q : Nat) (y : Int) (w : World) (hr : grid.Reads w a rows) (hz : ints.Reads .i64 w a' zs) (hq : ints.Reads .i64 w p ls) (hS : SF rows zs ls (rows.getD 0 []).length) :
    Calls Try.prog 129 #[.agg #[.slice a rows.length c, .slice a' zs.length c'], .slice p ls.length q, .int .i64 y] w (intfns.Made (sumsTo rows zs ls y (rows.getD 0 []).length rows.length) w) := by
  obtain ⟨i0, hi, hz0, hz1, hz2⟩ := info_parts infoInt
  have Hhr := Lib.hid hr
  have Hhz := Lib.hid hz
  have Hhq := Lib.hid hq
  have HhS := Lib.hid hS
  clear hr hz hq hS
  have x0_0 : (w.alloc (.cells #[.slice a rows.length c, .slice a' zs.length c'] 29)).cell? ⟨w.heap.size, 0, none⟩ = some (.slice a rows.length c) := cell_new _ _ _ (by simp) rfl
  have x0_1 : (w.alloc (.cells #[.slice a rows.length c, .slice a' zs.length c'] 29)).cell? ⟨w.heap.size, 1, none⟩ = some (.slice a' zs.length c') := cell_new _ _ _ (by simp) rfl
  have HB0 := Lib.hid (below_alloc w (.cells #[.slice a rows.length c, .slice a' zs.length c'] 29))
  have s0 : w.heap.size + 1 ≤ (w.alloc (.cells #[.slice a rows.length c, .slice a' zs.length c'] 29)).heap.size := by simp
  generalize hw : (w.alloc (.cells #[.slice a rows.length c, .slice a' zs.length c'] 29)) = w0 at *
  have HW := Lib.hid hw
  clear hw
  have n0_0 : w.heap.size < w0.heap.size := by omega
  have EW : w.heap.size + 1 = w0.heap.size := by rw [← HW.out]; simp
  obtain ⟨bl, off, rp0, rq0, hab, hbl, hc0, _, _⟩ := (Hhr.out.below HB0.out).at HhS.out.pos
  subst hab
  rw [Nat.add_zero] at hc0
  have HD4 := Lib.hid HhS.out.d4
  have HR0 := Lib.hid (show (rows.getD 0 []).length = (rows.getD 0 []).length from rfl)
  have HX := Lib.hid (show w0.cell? ⟨w.heap.size, 0, none⟩ = some (.slice (some ⟨bl, off, none⟩) rows.length c) ∧ w0.cell? ⟨w.heap.size, 1, none⟩ = some (.slice a' zs.length c') from ⟨x0_0, x0_1⟩)
  have hpos := HhS.out.pos
  have h16 := HhS.out.n16
  have i0' : (0 : Int) < (rows.length : Int) := by omega
  generalize hr0 : rows.getD 0 [] = r0 at *
  have hd4 := HD4.out
  have ed : IntKind.i64.wrap (1 + (r0.length : Int)) = 1 + (r0.length : Int) := IntWalk.i64_in _ (by omega)
  have hc9 := hc0
  rw [← HW.out] at hc9
  go_enter Try.func129, Try.ntmps129
  go_wp2_with (refine wpList_make_full _ rfl _ _ 23 rfl w0.heap.size 3 i0 (.int .i64 0) 1 Try.underlying23 hi hz0 hz1 .i64 .i64 (1 + (r0.length : Int)) (1 + (r0.length : Int)) (r0.length + 1) rfl rfl (by omega) (by omega) (by rw [hz2]; omega) (by unfold maxLen; omega) (by first | exact Nat.le_refl _ | (rw [← HW.out]; exact Nat.le_refl _)) ?_; intro w1 hown1 hgrow1; refine Hid.out ?_)
  refine Lib.hid ?_
  rw [HW.out] at hgrow1 hown1
  have hb1 : Below w0.heap.size w0 w1 := (Below.refl _ _).grown hgrow1 (Nat.le_refl _) (by simp)
  rw [show (Value.int .i64 0).cells = #[Value.int .i64 0] from rfl, Nat.mul_one, toList_madeCells_one] at hown1
  have HO1 := Lib.hid (show w1.ownsRow w0.heap.size 3 1 (.slice (some ⟨w0.heap.size, 0, none⟩) (r0.length + 1) (r0.length + 1)) (r0.length + 1) ((sumsTo rows zs ls y r0.length 0).map (Value.int .i64)) from by rw [sums_zero, List.map_replicate]; exact hown1)
  have HB1 := Lib.hid hb1
  have x0_0' := cell_below hb1 HX.out.1 (by omega)
  clear hown1 hgrow1 hb1 hc9 hc0 x0_0 x0_1 EW ed
  replace x0_0 := x0_0'
  clear x0_0'
  go_wp2_with fail
  clear x0_0
  go_loopw [22] (fun i wr => ∃ k : Nat, k ≤ rows.length ∧ i = .int .i64 k ∧ wr.ownsRow w0.heap.size 3 1 (.slice (some ⟨w0.heap.size, 0, none⟩) (r0.length + 1) (r0.length + 1)) (r0.length + 1) ((sumsTo rows zs ls y r0.length k).map (Value.int .i64)) ∧ Below w0.heap.size w0 wr) (fun i _ => rows.length - (intOf i).toNat)
  case atStart => exact ⟨0, Nat.zero_le _, rfl, HO1.out, HB1.out⟩
  case round =>
    obtain ⟨k, hk, rfl, hown, hbel⟩ := hrel
    clear HO1 HB1
    have HO := Lib.hid hown
    have HBl := Lib.hid hbel
    by_cases hlt : k < rows.length
    · obtain ⟨bl', off', rp, rq, hab, hbl', hc, hpq, hrow⟩ := (Hhr.out.below HB0.out).at hlt
      obtain ⟨rfl, rfl⟩ : bl = bl' ∧ off = off' := by cases hab; exact ⟨rfl, rfl⟩
      obtain ⟨lb, lo, hlb, hll, hlc⟩ := (Hhz.out.below HB0.out).at (k := k) (by have := HhS.out.zl; omega)
      subst hlb
      obtain ⟨qb, qo, hqb, hql, hqc⟩ := (Hhq.out.below HB0.out).at (k := k) (by have := HhS.out.ll; omega)
      subst hqb
      have hc0 := hc
      have hqc0 := hqc
      have x0_0 := cell_below hbel HX.out.1 (by omega)
      have x0_1 := cell_below hbel HX.out.2 (by omega)
      replace hc := cell_below hbel hc (by omega)
      replace hlc := cell_below hbel hlc (by omega)
      replace hqc := cell_below hbel hqc (by omega)
      have i1 : (0 : Int) ≤ (k : Int) := by omega
      have i2 : (k : Int) < (rows.length : Int) := by omega
      have i3 : (k : Int) < (zs.length : Int) := by have := HhS.out.zl; omega
      have i4 : (k : Int) < (ls.length : Int) := by have := HhS.out.ll; omega
      by_cases hy : zs.getD k 0 = y
      · have hrl := HhS.out.len k hlt
        have HRL := Lib.hid hrl
        have HC0 := Lib.hid (show w0.cell? ⟨bl, off + k, none⟩ = some (.slice rp (rows.getD k []).length rq) ∧ w0.cell? ⟨qb, qo + k, none⟩ = some (.int .i64 (ls.getD k 0)) ∧ bl < w0.heap.size ∧ qb < w0.heap.size from ⟨hc0, hqc0, hbl', hql⟩)
        have HROW := Lib.hid hrow
        have HSB := Lib.hid (fun j (hj : j < r0.length + 1) => sum_bd rows zs ls y j k (fun i hi => HhS.out.lb i (by omega)) (fun i hi => HhS.out.co i j (by omega) hj))
        have HSH := Lib.hid (fun j => sum_hit (rows := rows) (ls := ls) hy j)
        have HCO := Lib.hid (show ∀ j, j < r0.length → -9 ≤ (rows.getD k []).getD j 0 ∧ (rows.getD k []).getD j 0 ≤ 9 from fun j (hj : j < r0.length) => HhS.out.co k (j + 1) hlt (by omega))
        have HCS := Lib.hid (show ∀ j, coAt rows k (j + 1) = (rows.getD k []).getD j 0 from fun j => rfl)
        have hbl0 := HhS.out.lb k hlt
        have HN := Lib.hid (sums_length rows zs ls y r0.length k)
        have hpf := hown
        rw [← pf_zero (sumAt rows zs ls y (k + 1)) (sumsTo rows zs ls y r0.length k)] at hpf
        have hcell := pf_cellN HN.out hpf (by omega)
        have hfro := hpf.frozenAt 0
        rw [sums_getD _ _ _ _ _ _ _ (by omega)] at hcell
        have hs0 := HSB.out 0 (by omega)
        have HST := Lib.hid (pf_storeN HN.out hpf (by omega) (sumAt rows zs ls y k 0 + ls.getD k 0) (by rw [HSH.out 0, co_zero, Int.mul_one]))
        have HALL := Lib.hid (show pf (sumAt rows zs ls y (k + 1)) (sumsTo rows zs ls y r0.length k) (r0.length + 1) = sumsTo rows zs ls y r0.length (k + 1) from by have := pf_all (sumAt rows zs ls y (k + 1)) (sumsTo rows zs ls y r0.length k); rw [HN.out] at this; exact this)
        rw [hy] at hlc
        clear hown hpf hbel hrow hpq hab hc0 hqc0 hy hrl
        obtain ⟨l, hl⟩ : ∃ l, l = ls.getD k 0 := ⟨_, rfl⟩
        obtain ⟨s, hs⟩ : ∃ s, s = sumAt rows zs ls y k 0 := ⟨_, rfl⟩
        rw [← hl] at hqc hbl0 HC0 HST HSH
        rw [← hs] at hcell hs0 HST
        have e1 : IntKind.i64.wrap (s + l) = s + l := IntWalk.i64_in _ (by omega)
        have HLk := Lib.hid hl
        clear hl hs
        generalize rows.getD k [] = rk at *
        go_wp2_with fail
        go_still_tail 8, (by kernel_rfl)
        go_wp2_with fail
        obtain ⟨wo, hwo⟩ : ∃ wo : World, wo = (wr.setCell ⟨w0.heap.size, 0, none⟩ (.int .i64 (s + l))).drew := ⟨_, rfl⟩
        have HBW := Lib.hid (show Below w0.heap.size w0 wo from by rw [hwo]; exact (HBl.out.setCell (by simp) _).drew)
        have HOW := Lib.hid (show wo.ownsRow w0.heap.size 3 1 (.slice (some ⟨w0.heap.size, 0, none⟩) (r0.length + 1) (r0.length + 1)) (r0.length + 1) ((pf (sumAt rows zs ls y (k + 1)) (sumsTo rows zs ls y r0.length k) 1).map (Value.int .i64)) from by rw [hwo]; exact HST.out)
        rw [← hwo]
        clear hwo hcell hfro HST x0_0 x0_1 hc hlc hqc HO HBl e1 hs0
        go_loopw [45] (fun j wq => ∃ m : Nat, m ≤ r0.length ∧ j = .int .i64 m ∧ wq.ownsRow w0.heap.size 3 1 (.slice (some ⟨w0.heap.size, 0, none⟩) (r0.length + 1) (r0.length + 1)) (r0.length + 1) ((pf (sumAt rows zs ls y (k + 1)) (sumsTo rows zs ls y r0.length k) (m + 1)).map (Value.int .i64)) ∧ Below w0.heap.size w0 wq) (fun j _ => r0.length - (intOf j).toNat)
        case atStart => exact ⟨0, Nat.zero_le _, rfl, HOW.out, HBW.out⟩
        case round =>
          obtain ⟨m, hm, rfl, hown, hbel⟩ := hrel
          clear HOW HBW
          have HBq := Lib.hid hbel
          have x0_0 := cell_below hbel HX.out.1 (by omega)
          have hcq := cell_below hbel HC0.out.1 HC0.out.2.2.1
          have hqq := cell_below hbel HC0.out.2.1 HC0.out.2.2.2
          by_cases hmt : m < r0.length
          · obtain ⟨rb, ro, hrb, hrl, hrc⟩ := HROW.out.at (k := m) (by have := HRL.out; omega)
            subst hrb
            replace hrc := cell_below hbel hrc (by omega)
            have hcell := pf_cellN HN.out hown (by omega)
            have hfro := hown.frozenAt (m + 1)
            rw [sums_getD _ _ _ _ _ _ _ (by omega)] at hcell
            have hsb := HSB.out (m + 1) (by omega)
            have hco := HCO.out m hmt
            have HST := Lib.hid (pf_storeN HN.out hown (by omega) (sumAt rows zs ls y k (m + 1) + l * rk.getD m 0) (by rw [HSH.out (m + 1), HCS.out m]))
            have j1 : (0 : Int) ≤ (m : Int) := by omega
            have j2 : (m : Int) < (rk.length : Int) := by have := HRL.out; omega
            have j3 : (m : Int) + 1 < (r0.length : Int) + 1 := by omega
            have j4 : (m : Int) < (r0.length : Int) := by omega
            have j5 : (0 : Int) ≤ 1 + (m : Int) := by omega
            have j6 : 1 + (m : Int) < (r0.length : Int) + 1 := by omega
            clear hown hbel
            generalize rk.getD m 0 = x at *
            generalize sumAt rows zs ls y k (m + 1) = s' at *
            have hmu := mul_bd (A := 1000000000) (B := 9) (x := l) (y := x) (by omega) (by omega) hco.1 hco.2
            have e2 : IntKind.i64.wrap (l * x) = l * x := IntWalk.i64_in _ (by omega)
            have e3 : IntKind.i64.wrap (s' + l * x) = s' + l * x := IntWalk.i64_in _ (by omega)
            have e4 : IntKind.i64.wrap (1 + (m : Int)) = 1 + (m : Int) := IntWalk.i64_in _ (by omega)
            have e5 : ((m : Int) + 1).toNat = m + 1 := by omega
            have e6 : (1 + (m : Int)).toNat = m + 1 := by omega
            have HRL2 := HRL
            clear hmu hsb hco
            go_wp2_with fail
            go_still_tail 12, (by kernel_rfl)
            go_wp2_with fail
            go_roundw
            case rel => exact ⟨m + 1, by omega, by go_num, HST.out, (HBq.out.setCell (by simp) _).drew⟩
            case measure => simp [intOf]; omega
          · obtain rfl : m = r0.length := by omega
            have HO2 := Lib.hid hown
            have j4 : ¬ ((r0.length : Int) < (rk.length : Int)) := by have := HRL.out; omega
            clear hown hbel
            go_wp2_with fail
            go_roundw
            case rel => exact ⟨k + 1, by omega, by go_num, by rw [← HALL.out]; exact HO2.out, HBq.out⟩
            case measure => simp [intOf]; omega
      · have HSK := Lib.hid (sums_skip rows zs ls y r0.length k hy)
        have g1 : (zs.getD k 0 != y) = true := by rw [bne_iff_ne]; exact hy
        clear hown hbel hrow hpq hab hc0 hqc0 hy hqc
        generalize zs.getD k 0 = zk at *
        generalize rows.getD k [] = rk at *
        go_wp2_with fail
        go_roundw
        case rel => exact ⟨k + 1, by omega, by go_num, by rw [HSK.out]; exact HO.out, HBl.out⟩
        case measure => simp [intOf]; omega
    · obtain rfl : k = rows.length := by omega
      have x0_0 := cell_below hbel HX.out.1 (by omega)
      have HRET := Lib.hid (show intfns.Made (sumsTo rows zs ls y r0.length rows.length) w (.returned (.slice (some ⟨w0.heap.size, 0, none⟩) (r0.length + 1) (r0.length + 1))) wr from ⟨_, rfl, (OwnI.of (by rw [sums_length]; exact hown)).mono (by omega) (Nat.le_refl _), HB0.out.trans (hbel.mono (by omega))⟩)
      clear hown hbel
      go_wp2_with fail
      go_ret
      exact HRET.out
end Go.Proofs.Ytkbcofgigfnfaaa.sums
