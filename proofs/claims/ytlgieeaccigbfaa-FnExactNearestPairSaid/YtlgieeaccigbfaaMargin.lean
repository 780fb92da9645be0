/- The walks of the model's and the program's margins. -/
import Derived.Test.YtlgieeaccigbfaaSidesOf
import Derived.Test.YtlgieeaccigbfaaShelf
import Derived.Deep.RegionHeld3
import Derived.Deep.DrawnRows
namespace Go.Proofs.Ytlgieeaccigbfaa.margin
open Go.RowKit own pp nums samplesv samplest dots both sides
set_option linter.unusedVariables false
set_option linter.unusedSimpArgs false
attribute [local go_sem ↓] Go.wp_at_zero Go.wp_at_succ

theorem infoInt : (Try.prog.info? 3).map (fun i => (i.zero, i.size, i.bytes)) = some (some (.int .i64 0), 1, 8) := by kernel_rfl

/-- The margin of a plane at a point with a label. -/
def mg (ws : List Int) (b : Int) (xs : List Int) (y : Int) : Int := y * (2 * dot ws xs - 2 * b + 1)
def mgAt (rows : List (List Int)) (zs ws : List Int) (b : Int) (k : Nat) : Int := mg ws b (rows.getD k []) (zs.getD k 0)
def mgs (rows : List (List Int)) (zs ws : List Int) (b : Int) (k : Nat) : List Int := (List.range k).map (mgAt rows zs ws b)
/-- The least of the first k. -/
def leastTo (rows : List (List Int)) (zs ws : List Int) (b : Int) : Nat → Int
  | 0 => 0
  | k + 1 => if k = 0 ∨ mgAt rows zs ws b k < leastTo rows zs ws b k then mgAt rows zs ws b k else leastTo rows zs ws b k
theorem cell_set {w : World} {b o : Nat} {x : Value} (h : w.cell? ⟨b, o, none⟩ = some x) {a : Addr} (hb : b ≠ a.block) (u : Value) : (w.setCell a u).cell? ⟨b, o, none⟩ = some x :=
  (World.cell?_of_block (Below.heap_setCell _ _ _ _ hb)).trans h
theorem reads_at {w : World} {b off : Nat} {zs : List Int} (h : ints.Reads .i64 w (some ⟨b, off, none⟩) zs) : ∀ j, j < zs.length → w.cell? ⟨b, off + j, none⟩ = some (.int .i64 (zs.getD j 0)) := by
  rcases h with rfl | ⟨b', off', e, _, h⟩
  · intro j hj; simp at hj
  · cases e; exact h
theorem mgs_length (rows : List (List Int)) (zs ws : List Int) (b : Int) (k : Nat) : (mgs rows zs ws b k).length = k := by simp [mgs]
theorem mgs_succ (rows : List (List Int)) (zs ws : List Int) (b : Int) (k : Nat) : mgs rows zs ws b (k + 1) = mgs rows zs ws b k ++ [mgAt rows zs ws b k] := by simp [mgs, List.range_succ]
theorem mgs_getD (rows : List (List Int)) (zs ws : List Int) (b : Int) (n k : Nat) (h : k < n) : (mgs rows zs ws b n).getD k 0 = mgAt rows zs ws b k := by
  rw [List.getD_eq_getElem?_getD]; simp [mgs, h]
theorem mgs_fold (rows : List (List Int)) (zs ws : List Int) (b : Int) (k : Nat) : (mgs rows zs ws b (k + 1)).foldl min (mgAt rows zs ws b 0) = leastTo rows zs ws b (k + 1) := by
  induction k with
  | zero => simp [mgs, leastTo, List.range_succ]
  | succ k ih =>
    rw [mgs_succ, List.foldl_append, ih]
    show min (leastTo rows zs ws b (k + 1)) (mgAt rows zs ws b (k + 1)) = if k + 1 = 0 ∨ mgAt rows zs ws b (k + 1) < leastTo rows zs ws b (k + 1) then mgAt rows zs ws b (k + 1) else leastTo rows zs ws b (k + 1)
    rw [Int.min_def]
    split <;> split <;> omega
theorem mgs_min (rows : List (List Int)) (zs ws : List Int) (b : Int) (n : Nat) (h : 0 < n) : Lib.minOf (mgs rows zs ws b n) = leastTo rows zs ws b n := by
  obtain ⟨k, rfl⟩ : ∃ k, n = k + 1 := ⟨n - 1, by omega⟩
  rw [← mgs_fold]
  unfold Lib.minOf
  congr 1
  simp [mgs, List.range_succ_eq_map]

/-- The bounds of a product at a point of a sample that the plane suits. -/
def DotBd (rows : List (List Int)) (zs ws : List Int) : Prop := ∀ k, k < rows.length → (-3564 ≤ dot ws (rows.getD k []) ∧ dot ws (rows.getD k []) ≤ 3564) ∧ (zs.getD k 0 = 1 ∨ zs.getD k 0 = -1)
theorem dot_bd4 {ws xs : List Int} (hA : numsB 99 ws = true) (hB : numsB 9 xs = true) (hl : ws.length ≤ 4) (he : ws.length ≤ xs.length) : -3564 ≤ dot ws xs ∧ dot ws xs ≤ 3564 := by
  have hb : ∀ k, k ≤ ws.length → -(891 * (k : Int)) ≤ dotTo ws xs k ∧ dotTo ws xs k ≤ 891 * (k : Int) := by
    intro k
    induction k with
    | zero => intro _; simp [dotTo_zero]
    | succ k ih =>
      intro hk
      have h1 := ih (by omega)
      have h2 := numsB_at hA k (by omega)
      have h3 := numsB_at hB k (by omega)
      have h4 := mul_bd h2.1 h2.2 h3.1 h3.2
      rw [dotTo_succ]
      omega
  have := hb ws.length (Nat.le_refl _)
  unfold dot
  omega
theorem bd_of {rows : List (List Int)} {zs ws : List Int} {b : Int} (h : bothB rows zs ws b = true) : DotBd rows zs ws := by
  obtain ⟨h1, h2, h3⟩ := (bothB_iff _ _ _ _).1 h
  obtain ⟨s1, s2, s3, s4⟩ := (sampleB_iff _ _).1 h1
  obtain ⟨p1, p2, p3, p4⟩ := (planeB_iff _ _).1 h2
  intro k hk
  have hr := all_at _ [] rows s4 k hk
  simp only [Bool.and_eq_true, decide_eq_true_eq] at hr
  have hl : (rows.getD k []).length = ws.length := by rcases h3 with h3 | h3 <;> omega
  refine ⟨dot_bd4 p3 ((pointB_iff _).1 hr.1).2.2 p2 (by omega), ?_⟩
  have := all_at _ 0 zs s3 k (by omega)
  exact (labelB_iff _).1 this
theorem plane_b {rows : List (List Int)} {zs ws : List Int} {b : Int} (h : bothB rows zs ws b = true) : -99 ≤ b ∧ b ≤ 99 := (inB_iff _ _).1 ((planeB_iff _ _).1 ((bothB_iff _ _ _ _).1 h).2.1).2.2.2

set_option maxRecDepth 100000 in
set_option maxHeartbeats 4000000 in
theorem spec_margin (a : Option Addr) (rows : List (List Int)) (c : Nat) (a' : Option Addr) (zs : List Int) (c' : Nat) (p : Option Addr) (ws : List Int) (q : Nat) (b : Int) (w : World) (hr : grid.Reads w a rows) (hz : ints.Reads .i64 w a' zs) (hq : ints.Reads .i64 w p ws) (hl : zs.length = rows.length) (hn : rows.length ≤ 16) (hm : ws.length ≤ 1048576) (hF : RowsFit rows ws) (hD : DotBd rows zs ws) (hb : -99 ≤ b ∧ b ≤ 99) :
    Calls Try.prog 232 #[.agg #[.slice a rows.length c, .slice a' zs.length c'], .agg #[.slice p ws.length q, .int .i64 b]] w (RetN (leastTo rows zs ws b rows.length) w) := by
  obtain ⟨hb1, hb2⟩ := hb
  have HR := Lib.hid hr
  have HZ := Lib.hid hz
  have HL := Lib.hid hl
  have HQ := Lib.hid hq
  have HF := Lib.hid hF
  have HD := Lib.hid hD
  clear hr hq hF hz hl hD
  have x0 : ((w.alloc (.cells #[.slice a rows.length c, .slice a' zs.length c'] 27)).alloc (.cells #[.slice p ws.length q, .int .i64 b] 31)).cell? ⟨w.heap.size, 0, none⟩ = some (.slice a rows.length c) := cell_old _ (cell_new _ _ _ rfl rfl)
  have x1 : ((w.alloc (.cells #[.slice a rows.length c, .slice a' zs.length c'] 27)).alloc (.cells #[.slice p ws.length q, .int .i64 b] 31)).cell? ⟨w.heap.size, 1, none⟩ = some (.slice a' zs.length c') := cell_old _ (cell_new _ _ _ rfl rfl)
  have y0 : ((w.alloc (.cells #[.slice a rows.length c, .slice a' zs.length c'] 27)).alloc (.cells #[.slice p ws.length q, .int .i64 b] 31)).cell? ⟨w.heap.size + 1, 0, none⟩ = some (.slice p ws.length q) := cell_new _ _ _ (by simp) rfl
  have y1 : ((w.alloc (.cells #[.slice a rows.length c, .slice a' zs.length c'] 27)).alloc (.cells #[.slice p ws.length q, .int .i64 b] 31)).cell? ⟨w.heap.size + 1, 1, none⟩ = some (.int .i64 b) := cell_new _ _ _ (by simp) rfl
  have HB := Lib.hid ((below_alloc w (.cells #[.slice a rows.length c, .slice a' zs.length c'] 27)).alloc (by simp) (.cells #[.slice p ws.length q, .int .i64 b] 31))
  generalize hw : ((w.alloc (.cells #[.slice a rows.length c, .slice a' zs.length c'] 27)).alloc (.cells #[.slice p ws.length q, .int .i64 b] 31)) = w0 at *
  have HW := Lib.hid hw
  clear hw
  go_enter Try.func232, Try.ntmps232
  go_wp2_with fail
  rw [HW.out]
  go_loopw [5, 6] (fun v i wr => ∃ (k : Nat), k ≤ rows.length ∧ i = .int .i64 k ∧ v = .int .i64 (leastTo rows zs ws b k) ∧ Below w0.heap.size w0 wr) (fun _ i _ => rows.length - (intOf i).toNat)
  case atStart => exact ⟨0, Nat.zero_le _, rfl, rfl, Below.refl _ _⟩
  case round =>
    obtain ⟨k, hk, rfl, rfl, hbel⟩ := hrel
    replace x0 := cell_below hbel x0 (by rw [← HW.out]; simp; omega)
    replace x1 := cell_below hbel x1 (by rw [← HW.out]; simp; omega)
    replace y0 := cell_below hbel y0 (by rw [← HW.out]; simp)
    replace y1 := cell_below hbel y1 (by rw [← HW.out]; simp)
    have HBl := Lib.hid hbel
    by_cases hlt : k < rows.length
    · obtain ⟨bl, off, rp, rq, hab, hbl, hc, hpq, hrow⟩ := (HR.out.below HB.out).at hlt
      subst hab
      obtain ⟨lb, lo, hlb, hll, hlc⟩ := (HZ.out.below HB.out).at (k := k) (by have := HL.out; omega)
      subst hlb
      replace hc := cell_below hbel hc (by omega)
      replace hlc := cell_below hbel hlc (by omega)
      have hFk := HF.out k hlt
      obtain ⟨⟨d1, d2⟩, hy⟩ := HD.out k hlt
      have HC := Lib.hid (show ∀ m : Nat, Calls Try.prog 197 #[.slice p ws.length q, .slice rp (rows.getD k []).length rq] (wr.drewN m) (Tells (dot ws (rows.getD k [])) (wr.drewN m)) from fun m => spec_dot p ws q rp _ rq _ (HQ.out.below (ints.below_drewN (HB.out.trans (HBl.out.mono HB.out.size)) m)) (hrow.below (ints.below_drewN HBl.out m)) hm (by omega) (by omega) hFk.2)
      have i1 : (0 : Int) ≤ (k : Int) := by omega
      have i2 : (k : Int) < (rows.length : Int) := by omega
      have i3 : (k : Int) < (zs.length : Int) := by have := HL.out; omega
      have HM := Lib.hid (show mgAt rows zs ws b k = zs.getD k 0 * (2 * dot ws (rows.getD k []) - 2 * b + 1) from rfl)
      have HE := Lib.hid (show leastTo rows zs ws b (k + 1) = if k = 0 ∨ mgAt rows zs ws b k < leastTo rows zs ws b k then mgAt rows zs ws b k else leastTo rows zs ws b k from rfl)
      clear hrow hpq hFk hbel
      generalize rows.getD k [] = r at *
      generalize zs.getD k 0 = z at *
      generalize dot ws r = d at *
      generalize leastTo rows zs ws b k = l at *
      have e1 : IntKind.i64.wrap (2 * d) = 2 * d := IntWalk.i64_in _ (by omega)
      have e2 : IntKind.i64.wrap (2 * b) = 2 * b := IntWalk.i64_in _ (by omega)
      have e3 : IntKind.i64.wrap (2 * d - 2 * b) = 2 * d - 2 * b := IntWalk.i64_in _ (by omega)
      have e4 : IntKind.i64.wrap (2 * d - 2 * b + 1) = 2 * d - 2 * b + 1 := IntWalk.i64_in _ (by omega)
      have e5 : IntKind.i64.wrap (z * (2 * d - 2 * b + 1)) = mgAt rows zs ws b k := by rw [HM.out]; exact IntWalk.i64_in _ (by rcases hy with rfl | rfl <;> omega)
      clear HM hy
      generalize mgAt rows zs ws b k = g at *
      by_cases hk0 : k = 0
      · have g1 : ((k : Int) == 0) = true := by simp [hk0]
        have HE2 := Lib.hid (show leastTo rows zs ws b (k + 1) = g by rw [HE.out, if_pos (.inl hk0)])
        clear hk0
        go_wp2_with fail
        go_quiet ((go_at_call 197; exact Calls.quiet_of (HC.out _)))
        clear e1 e2 e3 e4 e5
        go_wp2_with fail
        go_roundw
        case rel => exact ⟨k + 1, by omega, by go_num, by rw [HE2.out], ints.below_drewN HBl.out _⟩
        case measure => simp [intOf]; omega
      · have g1 : ((k : Int) == 0) = false := by simp; omega
        by_cases hg : g < l
        · have g2 : decide (g < l) = true := by simp [hg]
          have HE2 := Lib.hid (show leastTo rows zs ws b (k + 1) = g by rw [HE.out, if_pos (.inr hg)])
          clear hk0
          go_wp2_with fail
          go_quiet ((go_at_call 197; exact Calls.quiet_of (HC.out _)))
          clear e1 e2 e3 e4 e5
          go_wp2_with fail
          go_roundw
          case rel => exact ⟨k + 1, by omega, by go_num, by rw [HE2.out], ints.below_drewN HBl.out _⟩
          case measure => simp [intOf]; omega
        · have g2 : decide (g < l) = false := by simp; omega
          have HE2 := Lib.hid (show leastTo rows zs ws b (k + 1) = l by rw [HE.out, if_neg (by omega)])
          clear hk0
          go_wp2_with fail
          go_quiet ((go_at_call 197; exact Calls.quiet_of (HC.out _)))
          clear e1 e2 e3 e4 e5
          go_wp2_with fail
          go_roundw
          case rel => exact ⟨k + 1, by omega, by go_num, by rw [HE2.out], ints.below_drewN HBl.out _⟩
          case measure => simp [intOf]; omega
    · obtain rfl : k = rows.length := by omega
      have HF1 := Lib.hid (show RetN (leastTo rows zs ws b rows.length) w (.returned (.int .i64 (leastTo rows zs ws b rows.length))) wr from ⟨rfl, HB.out.trans (HBl.out.mono HB.out.size)⟩)
      clear hbel
      go_wp2_with fail
      go_ret
      exact HF1.out

/-- A sample with points and a plane that suits it. -/
def mB (rows : List (List Int)) (zs ws : List Int) (b : Int) : Bool := bothB rows zs ws b && decide (0 < rows.length)
theorem mB_iff (rows : List (List Int)) (zs ws : List Int) (b : Int) : mB rows zs ws b = true ↔ bothB rows zs ws b = true ∧ 0 < rows.length := by simp [mB]
set_option maxRecDepth 100000 in
set_option maxHeartbeats 1000000 in
theorem spec_no (a : Option Addr) (rows : List (List Int)) (c : Nat) (a' : Option Addr) (zs : List Int) (c' : Nat) (p : Option Addr) (ws : List Int) (q : Nat) (b : Int) (w : World) (hr : grid.Reads w a rows) (hz : ints.Reads .i64 w a' zs) (hq : ints.Reads .i64 w p ws) (hn : rows.length ≤ 1048576) (hk : zs.length ≤ 1048576) (hm : ∀ r ∈ rows, r.length ≤ 1048576) (hw : ws.length ≤ 1048576) (h : Hid (mB rows zs ws b = false)) :
    Calls Try.prog 121 #[.agg #[.slice a rows.length c, .slice a' zs.length c'], .agg #[.slice p ws.length q, .int .i64 b]] w (RetNB 0 false w) := by
  have HMM := Lib.hid hm
  clear hm
  cases hbo : bothB rows zs ws b
  · have HBo := Lib.hid hbo
    clear h hbo
    have Hhr := Lib.hid hr
    have Hhz := Lib.hid hz
    have Hhq := Lib.hid hq
    clear hr hz hq
    go_enter Try.func121, Try.ntmps121
    go_wp2_with fail
    have x0_0 : (w.alloc (.cells #[.slice a rows.length c, .slice a' zs.length c'] 27)).cell? ⟨w.heap.size, 0, none⟩ = some (.slice a rows.length c) := cell_new _ _ _ (by simp) rfl
    have x0_1 : (w.alloc (.cells #[.slice a rows.length c, .slice a' zs.length c'] 27)).cell? ⟨w.heap.size, 1, none⟩ = some (.slice a' zs.length c') := cell_new _ _ _ (by simp) rfl
    have HB0 := Lib.hid (below_alloc w (.cells #[.slice a rows.length c, .slice a' zs.length c'] 27))
    replace x0_0 := cell_old (.cells #[.slice p ws.length q, .int .i64 b] 31) x0_0
    replace x0_1 := cell_old (.cells #[.slice p ws.length q, .int .i64 b] 31) x0_1
    have x1_0 : ((w.alloc (.cells #[.slice a rows.length c, .slice a' zs.length c'] 27)).alloc (.cells #[.slice p ws.length q, .int .i64 b] 31)).cell? ⟨w.heap.size + 1, 0, none⟩ = some (.slice p ws.length q) := cell_new _ _ _ (by simp) rfl
    have x1_1 : ((w.alloc (.cells #[.slice a rows.length c, .slice a' zs.length c'] 27)).alloc (.cells #[.slice p ws.length q, .int .i64 b] 31)).cell? ⟨w.heap.size + 1, 1, none⟩ = some (.int .i64 b) := cell_new _ _ _ (by simp) rfl
    replace HB0 := Lib.hid (HB0.out.alloc (by simp) (.cells #[.slice p ws.length q, .int .i64 b] 31))
    have s0 : w.heap.size + 2 ≤ ((w.alloc (.cells #[.slice a rows.length c, .slice a' zs.length c'] 27)).alloc (.cells #[.slice p ws.length q, .int .i64 b] 31)).heap.size := by simp
    generalize hw : ((w.alloc (.cells #[.slice a rows.length c, .slice a' zs.length c'] 27)).alloc (.cells #[.slice p ws.length q, .int .i64 b] 31)) = w0 at *
    clear hw
    have n0_0 : w.heap.size < w0.heap.size := by omega
    have n0_1 : w.heap.size + 1 < w0.heap.size := by omega
    refine (spec_both a rows c a' zs c' p ws q b _ (Hhr.out.below HB0.out) (Hhz.out.below HB0.out) (Hhq.out.below HB0.out) hn hk HMM.out hw false HBo).mono ?_
    rintro e w1 ⟨rfl, hb⟩
    have s1 : w0.heap.size ≤ w1.heap.size := hb.size
    have n1_0 : w.heap.size < w1.heap.size := by omega
    have n1_1 : w.heap.size + 1 < w1.heap.size := by omega
    replace x0_0 := cell_below hb x0_0 (by omega)
    replace x0_1 := cell_below hb x0_1 (by omega)
    replace x1_0 := cell_below hb x1_0 (by omega)
    replace x1_1 := cell_below hb x1_1 (by omega)
    have HB1 := Lib.hid (HB0.out.trans (hb.mono (by omega)))
    clear hb
    go_wp2_with fail
    go_ret2
    exact ⟨rfl, HB1.out⟩
  have h0 : rows.length = 0 := by have := h.out; simp [mB, hbo] at this; simpa using this
  have g0 : ((rows.length : Int) == 0) = true := by rw [beq_iff_eq]; omega
  clear h0
  have HBo := Lib.hid hbo
  clear h hbo
  have Hhr := Lib.hid hr
  have Hhz := Lib.hid hz
  have Hhq := Lib.hid hq
  clear hr hz hq
  go_enter Try.func121, Try.ntmps121
  go_wp2_with fail
  have x0_0 : (w.alloc (.cells #[.slice a rows.length c, .slice a' zs.length c'] 27)).cell? ⟨w.heap.size, 0, none⟩ = some (.slice a rows.length c) := cell_new _ _ _ (by simp) rfl
  have x0_1 : (w.alloc (.cells #[.slice a rows.length c, .slice a' zs.length c'] 27)).cell? ⟨w.heap.size, 1, none⟩ = some (.slice a' zs.length c') := cell_new _ _ _ (by simp) rfl
  have HB0 := Lib.hid (below_alloc w (.cells #[.slice a rows.length c, .slice a' zs.length c'] 27))
  replace x0_0 := cell_old (.cells #[.slice p ws.length q, .int .i64 b] 31) x0_0
  replace x0_1 := cell_old (.cells #[.slice p ws.length q, .int .i64 b] 31) x0_1
  have x1_0 : ((w.alloc (.cells #[.slice a rows.length c, .slice a' zs.length c'] 27)).alloc (.cells #[.slice p ws.length q, .int .i64 b] 31)).cell? ⟨w.heap.size + 1, 0, none⟩ = some (.slice p ws.length q) := cell_new _ _ _ (by simp) rfl
  have x1_1 : ((w.alloc (.cells #[.slice a rows.length c, .slice a' zs.length c'] 27)).alloc (.cells #[.slice p ws.length q, .int .i64 b] 31)).cell? ⟨w.heap.size + 1, 1, none⟩ = some (.int .i64 b) := cell_new _ _ _ (by simp) rfl
  replace HB0 := Lib.hid (HB0.out.alloc (by simp) (.cells #[.slice p ws.length q, .int .i64 b] 31))
  have s0 : w.heap.size + 2 ≤ ((w.alloc (.cells #[.slice a rows.length c, .slice a' zs.length c'] 27)).alloc (.cells #[.slice p ws.length q, .int .i64 b] 31)).heap.size := by simp
  generalize hw : ((w.alloc (.cells #[.slice a rows.length c, .slice a' zs.length c'] 27)).alloc (.cells #[.slice p ws.length q, .int .i64 b] 31)) = w0 at *
  clear hw
  have n0_0 : w.heap.size < w0.heap.size := by omega
  have n0_1 : w.heap.size + 1 < w0.heap.size := by omega
  refine (spec_both a rows c a' zs c' p ws q b _ (Hhr.out.below HB0.out) (Hhz.out.below HB0.out) (Hhq.out.below HB0.out) hn hk HMM.out hw true HBo).mono ?_
  rintro e w1 ⟨rfl, hb⟩
  have s1 : w0.heap.size ≤ w1.heap.size := hb.size
  have n1_0 : w.heap.size < w1.heap.size := by omega
  have n1_1 : w.heap.size + 1 < w1.heap.size := by omega
  replace x0_0 := cell_below hb x0_0 (by omega)
  replace x0_1 := cell_below hb x0_1 (by omega)
  replace x1_0 := cell_below hb x1_0 (by omega)
  replace x1_1 := cell_below hb x1_1 (by omega)
  have HB1 := Lib.hid (HB0.out.trans (hb.mono (by omega)))
  clear hb
  go_wp2_with fail
  go_ret2
  exact ⟨rfl, HB1.out⟩
set_option maxHeartbeats 1000000 in
theorem spec_yes (a : Option Addr) (rows : List (List Int)) (c : Nat) (a' : Option Addr) (zs : List Int) (c' : Nat) (p : Option Addr) (ws : List Int) (q : Nat) (b : Int) (w : World) (hr : grid.Reads w a rows) (hz : ints.Reads .i64 w a' zs) (hq : ints.Reads .i64 w p ws) (hn : rows.length ≤ 1048576) (hk : zs.length ≤ 1048576) (hm : ∀ r ∈ rows, r.length ≤ 1048576) (hw : ws.length ≤ 1048576) (h : Hid (mB rows zs ws b = true)) :
    Calls Try.prog 121 #[.agg #[.slice a rows.length c, .slice a' zs.length c'], .agg #[.slice p ws.length q, .int .i64 b]] w (RetNB (leastTo rows zs ws b rows.length) true w) := by
  have HMM := Lib.hid hm
  obtain ⟨hbo, h0⟩ := (mB_iff _ _ _ _).1 h.out
  have g0 : ((rows.length : Int) == 0) = false := by rw [beq_eq_false_iff_ne]; omega
  have hn16 := (fit_of hbo).2
  have HF := Lib.hid (fit_of hbo).1
  have HD := Lib.hid (bd_of hbo)
  have hbb := plane_b hbo
  have HL := Lib.hid ((sampleB_iff _ _).1 ((bothB_iff _ _ _ _).1 hbo).1).2.1
  have HBo := Lib.hid hbo
  clear hm hbo
  have Hhr := Lib.hid hr
  have Hhz := Lib.hid hz
  have Hhq := Lib.hid hq
  clear hr hz hq
  go_enter Try.func121, Try.ntmps121
  go_wp2_with fail
  have x0_0 : (w.alloc (.cells #[.slice a rows.length c, .slice a' zs.length c'] 27)).cell? ⟨w.heap.size, 0, none⟩ = some (.slice a rows.length c) := cell_new _ _ _ (by simp) rfl
  have x0_1 : (w.alloc (.cells #[.slice a rows.length c, .slice a' zs.length c'] 27)).cell? ⟨w.heap.size, 1, none⟩ = some (.slice a' zs.length c') := cell_new _ _ _ (by simp) rfl
  have HB0 := Lib.hid (below_alloc w (.cells #[.slice a rows.length c, .slice a' zs.length c'] 27))
  replace x0_0 := cell_old (.cells #[.slice p ws.length q, .int .i64 b] 31) x0_0
  replace x0_1 := cell_old (.cells #[.slice p ws.length q, .int .i64 b] 31) x0_1
  have x1_0 : ((w.alloc (.cells #[.slice a rows.length c, .slice a' zs.length c'] 27)).alloc (.cells #[.slice p ws.length q, .int .i64 b] 31)).cell? ⟨w.heap.size + 1, 0, none⟩ = some (.slice p ws.length q) := cell_new _ _ _ (by simp) rfl
  have x1_1 : ((w.alloc (.cells #[.slice a rows.length c, .slice a' zs.length c'] 27)).alloc (.cells #[.slice p ws.length q, .int .i64 b] 31)).cell? ⟨w.heap.size + 1, 1, none⟩ = some (.int .i64 b) := cell_new _ _ _ (by simp) rfl
  replace HB0 := Lib.hid (HB0.out.alloc (by simp) (.cells #[.slice p ws.length q, .int .i64 b] 31))
  have s0 : w.heap.size + 2 ≤ ((w.alloc (.cells #[.slice a rows.length c, .slice a' zs.length c'] 27)).alloc (.cells #[.slice p ws.length q, .int .i64 b] 31)).heap.size := by simp
  generalize hw : ((w.alloc (.cells #[.slice a rows.length c, .slice a' zs.length c'] 27)).alloc (.cells #[.slice p ws.length q, .int .i64 b] 31)) = w0 at *
  clear hw
  have n0_0 : w.heap.size < w0.heap.size := by omega
  have n0_1 : w.heap.size + 1 < w0.heap.size := by omega
  refine (spec_both a rows c a' zs c' p ws q b _ (Hhr.out.below HB0.out) (Hhz.out.below HB0.out) (Hhq.out.below HB0.out) hn hk HMM.out hw true HBo).mono ?_
  rintro e w1 ⟨rfl, hb⟩
  have s1 : w0.heap.size ≤ w1.heap.size := hb.size
  have n1_0 : w.heap.size < w1.heap.size := by omega
  have n1_1 : w.heap.size + 1 < w1.heap.size := by omega
  replace x0_0 := cell_below hb x0_0 (by omega)
  replace x0_1 := cell_below hb x0_1 (by omega)
  replace x1_0 := cell_below hb x1_0 (by omega)
  replace x1_1 := cell_below hb x1_1 (by omega)
  have HB1 := Lib.hid (HB0.out.trans (hb.mono (by omega)))
  clear hb
  go_wp2_with fail
  refine (spec_margin a rows c a' zs c' p ws q b _ (Hhr.out.below HB1.out) (Hhz.out.below HB1.out) (Hhq.out.below HB1.out) HL.out (by omega) hw HF.out HD.out hbb).mono ?_
  rintro e w2 ⟨rfl, hb⟩
  have s2 : w1.heap.size ≤ w2.heap.size := hb.size
  have n2_0 : w.heap.size < w2.heap.size := by omega
  have n2_1 : w.heap.size + 1 < w2.heap.size := by omega
  replace x0_0 := cell_below hb x0_0 (by omega)
  replace x0_1 := cell_below hb x0_1 (by omega)
  replace x1_0 := cell_below hb x1_0 (by omega)
  replace x1_1 := cell_below hb x1_1 (by omega)
  have HB2 := Lib.hid (HB1.out.trans (hb.mono (by omega)))
  clear hb
  go_wp2_with fail
  go_ret2
  exact ⟨rfl, HB2.out⟩

/-- A sample with points. -/
def hpB (rows : List (List Int)) (zs : List Int) : Bool := sampleB rows zs && decide (0 < rows.length)
theorem hpB_iff (rows : List (List Int)) (zs : List Int) : hpB rows zs = true ↔ sampleB rows zs = true ∧ 0 < rows.length := by simp [hpB]
set_option maxHeartbeats 1000000 in
theorem impl_hasPoints (a : Option Addr) (rows : List (List Int)) (c : Nat) (a' : Option Addr) (zs : List Int) (c' : Nat) (w : World) (hr : grid.Reads w a rows) (hz : ints.Reads .i64 w a' zs) (hn : rows.length ≤ 1048576) (hk : zs.length ≤ 1048576) (hm : ∀ r ∈ rows, r.length ≤ 1048576) (ok : Bool) (h : Hid (hpB rows zs = ok)) :
    Calls Try.prog 138 #[.agg #[.slice a rows.length c, .slice a' zs.length c']] w (RetB ok w) := by
  have HMM := Lib.hid hm
  clear hm
  cases hs : sampleB rows zs
  · have e : ok = false := by rw [← h.out]; simp [hpB, hs]
    have HS := Lib.hid hs
    clear h hs
    subst e
    have Hhr := Lib.hid hr
    have Hhz := Lib.hid hz
    clear hr hz
    go_enter Try.func138, Try.ntmps138
    go_wp2_with fail
    have x0_0 : (w.alloc (.cells #[.slice a rows.length c, .slice a' zs.length c'] 27)).cell? ⟨w.heap.size, 0, none⟩ = some (.slice a rows.length c) := cell_new _ _ _ (by simp) rfl
    have x0_1 : (w.alloc (.cells #[.slice a rows.length c, .slice a' zs.length c'] 27)).cell? ⟨w.heap.size, 1, none⟩ = some (.slice a' zs.length c') := cell_new _ _ _ (by simp) rfl
    have HB0 := Lib.hid (below_alloc w (.cells #[.slice a rows.length c, .slice a' zs.length c'] 27))
    have s0 : w.heap.size + 1 ≤ (w.alloc (.cells #[.slice a rows.length c, .slice a' zs.length c'] 27)).heap.size := by simp
    generalize hw : (w.alloc (.cells #[.slice a rows.length c, .slice a' zs.length c'] 27)) = w0 at *
    clear hw
    have n0_0 : w.heap.size < w0.heap.size := by omega
    refine (impl_sample a rows c a' zs c' _ (Hhr.out.below HB0.out) (Hhz.out.below HB0.out) hn hk HMM.out false HS).mono ?_
    rintro e w1 ⟨rfl, hb⟩
    have s1 : w0.heap.size ≤ w1.heap.size := hb.size
    have n1_0 : w.heap.size < w1.heap.size := by omega
    replace x0_0 := cell_below hb x0_0 (by omega)
    replace x0_1 := cell_below hb x0_1 (by omega)
    have HB1 := Lib.hid (HB0.out.trans (hb.mono (by omega)))
    clear hb
    go_wp2_with fail
    go_ret
    exact ⟨rfl, HB1.out⟩
  by_cases h0 : 0 < rows.length
  · have e : ok = true := by rw [← h.out]; simp [hpB, hs, h0]
    have HS := Lib.hid hs
    clear h hs
    subst e
    have Hhr := Lib.hid hr
    have Hhz := Lib.hid hz
    clear hr hz
    go_enter Try.func138, Try.ntmps138
    go_wp2_with fail
    have x0_0 : (w.alloc (.cells #[.slice a rows.length c, .slice a' zs.length c'] 27)).cell? ⟨w.heap.size, 0, none⟩ = some (.slice a rows.length c) := cell_new _ _ _ (by simp) rfl
    have x0_1 : (w.alloc (.cells #[.slice a rows.length c, .slice a' zs.length c'] 27)).cell? ⟨w.heap.size, 1, none⟩ = some (.slice a' zs.length c') := cell_new _ _ _ (by simp) rfl
    have HB0 := Lib.hid (below_alloc w (.cells #[.slice a rows.length c, .slice a' zs.length c'] 27))
    have s0 : w.heap.size + 1 ≤ (w.alloc (.cells #[.slice a rows.length c, .slice a' zs.length c'] 27)).heap.size := by simp
    generalize hw : (w.alloc (.cells #[.slice a rows.length c, .slice a' zs.length c'] 27)) = w0 at *
    clear hw
    have n0_0 : w.heap.size < w0.heap.size := by omega
    refine (impl_sample a rows c a' zs c' _ (Hhr.out.below HB0.out) (Hhz.out.below HB0.out) hn hk HMM.out true HS).mono ?_
    rintro e w1 ⟨rfl, hb⟩
    have s1 : w0.heap.size ≤ w1.heap.size := hb.size
    have n1_0 : w.heap.size < w1.heap.size := by omega
    replace x0_0 := cell_below hb x0_0 (by omega)
    replace x0_1 := cell_below hb x0_1 (by omega)
    have HB1 := Lib.hid (HB0.out.trans (hb.mono (by omega)))
    clear hb
    go_wp2_with fail
    go_ret
    exact ⟨rfl, HB1.out⟩
  · have e : ok = false := by rw [← h.out]; simp [hpB, h0]
    have HS := Lib.hid hs
    have g0 : decide ((0 : Int) < (rows.length : Int)) = false := decide_eq_false (by omega)
    clear h hs
    subst e
    have Hhr := Lib.hid hr
    have Hhz := Lib.hid hz
    clear hr hz
    go_enter Try.func138, Try.ntmps138
    go_wp2_with fail
    have x0_0 : (w.alloc (.cells #[.slice a rows.length c, .slice a' zs.length c'] 27)).cell? ⟨w.heap.size, 0, none⟩ = some (.slice a rows.length c) := cell_new _ _ _ (by simp) rfl
    have x0_1 : (w.alloc (.cells #[.slice a rows.length c, .slice a' zs.length c'] 27)).cell? ⟨w.heap.size, 1, none⟩ = some (.slice a' zs.length c') := cell_new _ _ _ (by simp) rfl
    have HB0 := Lib.hid (below_alloc w (.cells #[.slice a rows.length c, .slice a' zs.length c'] 27))
    have s0 : w.heap.size + 1 ≤ (w.alloc (.cells #[.slice a rows.length c, .slice a' zs.length c'] 27)).heap.size := by simp
    generalize hw : (w.alloc (.cells #[.slice a rows.length c, .slice a' zs.length c'] 27)) = w0 at *
    clear hw
    have n0_0 : w.heap.size < w0.heap.size := by omega
    refine (impl_sample a rows c a' zs c' _ (Hhr.out.below HB0.out) (Hhz.out.below HB0.out) hn hk HMM.out true HS).mono ?_
    rintro e w1 ⟨rfl, hb⟩
    have s1 : w0.heap.size ≤ w1.heap.size := hb.size
    have n1_0 : w.heap.size < w1.heap.size := by omega
    replace x0_0 := cell_below hb x0_0 (by omega)
    replace x0_1 := cell_below hb x0_1 (by omega)
    have HB1 := Lib.hid (HB0.out.trans (hb.mono (by omega)))
    clear hb
    go_wp2_with fail
    go_ret
    exact ⟨rfl, HB1.out⟩

/-- The first k margins, then zeros. -/
def filled (rows : List (List Int)) (zs ws : List Int) (b : Int) (n k : Nat) : List Value := (mgs rows zs ws b k).map (Value.int .i64) ++ List.replicate (n - k) (.int .i64 0)
theorem filled_zero (rows : List (List Int)) (zs ws : List Int) (b : Int) (n : Nat) : filled rows zs ws b n 0 = List.replicate n (.int .i64 0) := by simp [filled, mgs]
theorem filled_all (rows : List (List Int)) (zs ws : List Int) (b : Int) (n : Nat) : filled rows zs ws b n n = (mgs rows zs ws b n).map (Value.int .i64) := by simp [filled]
theorem filled_succ (rows : List (List Int)) (zs ws : List Int) (b : Int) (n k : Nat) (h : k < n) : (filled rows zs ws b n k).set k (.int .i64 (mgAt rows zs ws b k)) = filled rows zs ws b n (k + 1) := by
  unfold filled
  rw [List.set_append, if_neg (by simp [mgs_length]), show n - k = (n - (k + 1)) + 1 by omega, List.replicate_succ, List.length_map, mgs_length, Nat.sub_self, List.set_cons_zero, mgs_succ, List.map_append, List.append_assoc]
  rfl
theorem filled_at (rows : List (List Int)) (zs ws : List Int) (b : Int) (n k : Nat) (h : k < n) : (filled rows zs ws b n k)[k]? = some (.int .i64 0) := by
  unfold filled
  rw [List.getElem?_append_right (by simp [mgs_length]), List.getElem?_replicate, if_pos (by simp [mgs_length]; omega)]
set_option maxHeartbeats 1000000 in
theorem impl_no (a : Option Addr) (rows : List (List Int)) (c : Nat) (a' : Option Addr) (zs : List Int) (c' : Nat) (p : Option Addr) (ws : List Int) (q : Nat) (b : Int) (w : World) (hr : grid.Reads w a rows) (hz : ints.Reads .i64 w a' zs) (hq : ints.Reads .i64 w p ws) (hn : rows.length ≤ 1048576) (hk : zs.length ≤ 1048576) (hm : ∀ r ∈ rows, r.length ≤ 1048576) (hw : ws.length ≤ 1048576) (h : Hid (mB rows zs ws b = false)) :
    Calls Try.prog 120 #[.agg #[.slice a rows.length c, .slice a' zs.length c'], .agg #[.slice p ws.length q, .int .i64 b]] w (RetNB 0 false w) := by
  have HMM := Lib.hid hm
  clear hm
  cases hbo : bothB rows zs ws b
  · have HBo := Lib.hid hbo
    clear h hbo
    have Hhr := Lib.hid hr
    have Hhz := Lib.hid hz
    have Hhq := Lib.hid hq
    clear hr hz hq
    go_enter Try.func120, Try.ntmps120
    go_wp2_with fail
    have x0_0 : (w.alloc (.cells #[.slice a rows.length c, .slice a' zs.length c'] 27)).cell? ⟨w.heap.size, 0, none⟩ = some (.slice a rows.length c) := cell_new _ _ _ (by simp) rfl
    have x0_1 : (w.alloc (.cells #[.slice a rows.length c, .slice a' zs.length c'] 27)).cell? ⟨w.heap.size, 1, none⟩ = some (.slice a' zs.length c') := cell_new _ _ _ (by simp) rfl
    have HB0 := Lib.hid (below_alloc w (.cells #[.slice a rows.length c, .slice a' zs.length c'] 27))
    replace x0_0 := cell_old (.cells #[.slice p ws.length q, .int .i64 b] 31) x0_0
    replace x0_1 := cell_old (.cells #[.slice p ws.length q, .int .i64 b] 31) x0_1
    have x1_0 : ((w.alloc (.cells #[.slice a rows.length c, .slice a' zs.length c'] 27)).alloc (.cells #[.slice p ws.length q, .int .i64 b] 31)).cell? ⟨w.heap.size + 1, 0, none⟩ = some (.slice p ws.length q) := cell_new _ _ _ (by simp) rfl
    have x1_1 : ((w.alloc (.cells #[.slice a rows.length c, .slice a' zs.length c'] 27)).alloc (.cells #[.slice p ws.length q, .int .i64 b] 31)).cell? ⟨w.heap.size + 1, 1, none⟩ = some (.int .i64 b) := cell_new _ _ _ (by simp) rfl
    replace HB0 := Lib.hid (HB0.out.alloc (by simp) (.cells #[.slice p ws.length q, .int .i64 b] 31))
    have s0 : w.heap.size + 2 ≤ ((w.alloc (.cells #[.slice a rows.length c, .slice a' zs.length c'] 27)).alloc (.cells #[.slice p ws.length q, .int .i64 b] 31)).heap.size := by simp
    generalize hw : ((w.alloc (.cells #[.slice a rows.length c, .slice a' zs.length c'] 27)).alloc (.cells #[.slice p ws.length q, .int .i64 b] 31)) = w0 at *
    clear hw
    have n0_0 : w.heap.size < w0.heap.size := by omega
    have n0_1 : w.heap.size + 1 < w0.heap.size := by omega
    refine (sidesof.impl_suits a rows c a' zs c' p ws q b _ (Hhr.out.below HB0.out) (Hhz.out.below HB0.out) (Hhq.out.below HB0.out) hn hk HMM.out hw false HBo).mono ?_
    rintro e w1 ⟨rfl, hb⟩
    have s1 : w0.heap.size ≤ w1.heap.size := hb.size
    have n1_0 : w.heap.size < w1.heap.size := by omega
    have n1_1 : w.heap.size + 1 < w1.heap.size := by omega
    replace x0_0 := cell_below hb x0_0 (by omega)
    replace x0_1 := cell_below hb x0_1 (by omega)
    replace x1_0 := cell_below hb x1_0 (by omega)
    replace x1_1 := cell_below hb x1_1 (by omega)
    have HB1 := Lib.hid (HB0.out.trans (hb.mono (by omega)))
    clear hb
    go_wp2_with fail
    go_ret2
    exact ⟨rfl, HB1.out⟩
  have h0 : rows.length = 0 := by have := h.out; simp [mB, hbo] at this; simpa using this
  have HPo := Lib.hid (show hpB rows zs = false by simp [hpB, h0])
  have HBo := Lib.hid hbo
  clear h hbo h0
  have Hhr := Lib.hid hr
  have Hhz := Lib.hid hz
  have Hhq := Lib.hid hq
  clear hr hz hq
  go_enter Try.func120, Try.ntmps120
  go_wp2_with fail
  have x0_0 : (w.alloc (.cells #[.slice a rows.length c, .slice a' zs.length c'] 27)).cell? ⟨w.heap.size, 0, none⟩ = some (.slice a rows.length c) := cell_new _ _ _ (by simp) rfl
  have x0_1 : (w.alloc (.cells #[.slice a rows.length c, .slice a' zs.length c'] 27)).cell? ⟨w.heap.size, 1, none⟩ = some (.slice a' zs.length c') := cell_new _ _ _ (by simp) rfl
  have HB0 := Lib.hid (below_alloc w (.cells #[.slice a rows.length c, .slice a' zs.length c'] 27))
  replace x0_0 := cell_old (.cells #[.slice p ws.length q, .int .i64 b] 31) x0_0
  replace x0_1 := cell_old (.cells #[.slice p ws.length q, .int .i64 b] 31) x0_1
  have x1_0 : ((w.alloc (.cells #[.slice a rows.length c, .slice a' zs.length c'] 27)).alloc (.cells #[.slice p ws.length q, .int .i64 b] 31)).cell? ⟨w.heap.size + 1, 0, none⟩ = some (.slice p ws.length q) := cell_new _ _ _ (by simp) rfl
  have x1_1 : ((w.alloc (.cells #[.slice a rows.length c, .slice a' zs.length c'] 27)).alloc (.cells #[.slice p ws.length q, .int .i64 b] 31)).cell? ⟨w.heap.size + 1, 1, none⟩ = some (.int .i64 b) := cell_new _ _ _ (by simp) rfl
  replace HB0 := Lib.hid (HB0.out.alloc (by simp) (.cells #[.slice p ws.length q, .int .i64 b] 31))
  have s0 : w.heap.size + 2 ≤ ((w.alloc (.cells #[.slice a rows.length c, .slice a' zs.length c'] 27)).alloc (.cells #[.slice p ws.length q, .int .i64 b] 31)).heap.size := by simp
  generalize hw : ((w.alloc (.cells #[.slice a rows.length c, .slice a' zs.length c'] 27)).alloc (.cells #[.slice p ws.length q, .int .i64 b] 31)) = w0 at *
  clear hw
  have n0_0 : w.heap.size < w0.heap.size := by omega
  have n0_1 : w.heap.size + 1 < w0.heap.size := by omega
  refine (sidesof.impl_suits a rows c a' zs c' p ws q b _ (Hhr.out.below HB0.out) (Hhz.out.below HB0.out) (Hhq.out.below HB0.out) hn hk HMM.out hw true HBo).mono ?_
  rintro e w1 ⟨rfl, hb⟩
  have s1 : w0.heap.size ≤ w1.heap.size := hb.size
  have n1_0 : w.heap.size < w1.heap.size := by omega
  have n1_1 : w.heap.size + 1 < w1.heap.size := by omega
  replace x0_0 := cell_below hb x0_0 (by omega)
  replace x0_1 := cell_below hb x0_1 (by omega)
  replace x1_0 := cell_below hb x1_0 (by omega)
  replace x1_1 := cell_below hb x1_1 (by omega)
  have HB1 := Lib.hid (HB0.out.trans (hb.mono (by omega)))
  clear hb
  go_wp2_with fail
  refine (impl_hasPoints a rows c a' zs c' _ (Hhr.out.below HB1.out) (Hhz.out.below HB1.out) hn hk HMM.out false HPo).mono ?_
  rintro e w2 ⟨rfl, hb⟩
  have s2 : w1.heap.size ≤ w2.heap.size := hb.size
  have n2_0 : w.heap.size < w2.heap.size := by omega
  have n2_1 : w.heap.size + 1 < w2.heap.size := by omega
  replace x0_0 := cell_below hb x0_0 (by omega)
  replace x0_1 := cell_below hb x0_1 (by omega)
  replace x1_0 := cell_below hb x1_0 (by omega)
  replace x1_1 := cell_below hb x1_1 (by omega)
  have HB2 := Lib.hid (HB1.out.trans (hb.mono (by omega)))
  clear hb
  go_wp2_with fail
  go_ret2
  exact ⟨rfl, HB2.out⟩
set_option maxRecDepth 100000 in
set_option maxHeartbeats 4000000 in
theorem impl_yes (a : Option Addr) (rows : List (List Int)) (c : Nat) (a' : Option Addr) (zs : List Int) (c' : Nat) (p : Option Addr) (ws : List Int) (q : Nat) (b : Int) (w : World) (hr : grid.Reads w a rows) (hz : ints.Reads .i64 w a' zs) (hq : ints.Reads .i64 w p ws) (hn : rows.length ≤ 1048576) (hk : zs.length ≤ 1048576) (hm : ∀ r ∈ rows, r.length ≤ 1048576) (hw : ws.length ≤ 1048576) (h : Hid (mB rows zs ws b = true)) :
    Calls Try.prog 120 #[.agg #[.slice a rows.length c, .slice a' zs.length c'], .agg #[.slice p ws.length q, .int .i64 b]] w (RetNB (leastTo rows zs ws b rows.length) true w) := by
  obtain ⟨i0, hi, hz0, hz1, hz2⟩ := info_parts infoInt
  have HMM := Lib.hid hm
  obtain ⟨hbo, h0⟩ := (mB_iff _ _ _ _).1 h.out
  have g0 : ((rows.length : Int) == 0) = false := by rw [beq_eq_false_iff_ne]; omega
  have hn16 := (fit_of hbo).2
  have HF := Lib.hid (fit_of hbo).1
  have HD := Lib.hid (bd_of hbo)
  have hbb := plane_b hbo
  have HL := Lib.hid ((sampleB_iff _ _).1 ((bothB_iff _ _ _ _).1 hbo).1).2.1
  have HPo := Lib.hid ((hpB_iff rows zs).2 ⟨((bothB_iff _ _ _ _).1 hbo).1, h0⟩)
  have HBo := Lib.hid hbo
  clear hm hbo
  have Hhr := Lib.hid hr
  have Hhz := Lib.hid hz
  have Hhq := Lib.hid hq
  clear hr hz hq
  go_enter Try.func120, Try.ntmps120
  go_wp2_with fail
  have x0_0 : (w.alloc (.cells #[.slice a rows.length c, .slice a' zs.length c'] 27)).cell? ⟨w.heap.size, 0, none⟩ = some (.slice a rows.length c) := cell_new _ _ _ (by simp) rfl
  have x0_1 : (w.alloc (.cells #[.slice a rows.length c, .slice a' zs.length c'] 27)).cell? ⟨w.heap.size, 1, none⟩ = some (.slice a' zs.length c') := cell_new _ _ _ (by simp) rfl
  have HB0 := Lib.hid (below_alloc w (.cells #[.slice a rows.length c, .slice a' zs.length c'] 27))
  replace x0_0 := cell_old (.cells #[.slice p ws.length q, .int .i64 b] 31) x0_0
  replace x0_1 := cell_old (.cells #[.slice p ws.length q, .int .i64 b] 31) x0_1
  have x1_0 : ((w.alloc (.cells #[.slice a rows.length c, .slice a' zs.length c'] 27)).alloc (.cells #[.slice p ws.length q, .int .i64 b] 31)).cell? ⟨w.heap.size + 1, 0, none⟩ = some (.slice p ws.length q) := cell_new _ _ _ (by simp) rfl
  have x1_1 : ((w.alloc (.cells #[.slice a rows.length c, .slice a' zs.length c'] 27)).alloc (.cells #[.slice p ws.length q, .int .i64 b] 31)).cell? ⟨w.heap.size + 1, 1, none⟩ = some (.int .i64 b) := cell_new _ _ _ (by simp) rfl
  replace HB0 := Lib.hid (HB0.out.alloc (by simp) (.cells #[.slice p ws.length q, .int .i64 b] 31))
  have s0 : w.heap.size + 2 ≤ ((w.alloc (.cells #[.slice a rows.length c, .slice a' zs.length c'] 27)).alloc (.cells #[.slice p ws.length q, .int .i64 b] 31)).heap.size := by simp
  generalize hw : ((w.alloc (.cells #[.slice a rows.length c, .slice a' zs.length c'] 27)).alloc (.cells #[.slice p ws.length q, .int .i64 b] 31)) = w0 at *
  clear hw
  have n0_0 : w.heap.size < w0.heap.size := by omega
  have n0_1 : w.heap.size + 1 < w0.heap.size := by omega
  refine (sidesof.impl_suits a rows c a' zs c' p ws q b _ (Hhr.out.below HB0.out) (Hhz.out.below HB0.out) (Hhq.out.below HB0.out) hn hk HMM.out hw true HBo).mono ?_
  rintro e w1 ⟨rfl, hb⟩
  have s1 : w0.heap.size ≤ w1.heap.size := hb.size
  have n1_0 : w.heap.size < w1.heap.size := by omega
  have n1_1 : w.heap.size + 1 < w1.heap.size := by omega
  replace x0_0 := cell_below hb x0_0 (by omega)
  replace x0_1 := cell_below hb x0_1 (by omega)
  replace x1_0 := cell_below hb x1_0 (by omega)
  replace x1_1 := cell_below hb x1_1 (by omega)
  have HB1 := Lib.hid (HB0.out.trans (hb.mono (by omega)))
  clear hb
  go_wp2_with fail
  refine (impl_hasPoints a rows c a' zs c' _ (Hhr.out.below HB1.out) (Hhz.out.below HB1.out) hn hk HMM.out true HPo).mono ?_
  rintro e w2 ⟨rfl, hb⟩
  have s2 : w1.heap.size ≤ w2.heap.size := hb.size
  have n2_0 : w.heap.size < w2.heap.size := by omega
  have n2_1 : w.heap.size + 1 < w2.heap.size := by omega
  replace x0_0 := cell_below hb x0_0 (by omega)
  replace x0_1 := cell_below hb x0_1 (by omega)
  replace x1_0 := cell_below hb x1_0 (by omega)
  replace x1_1 := cell_below hb x1_1 (by omega)
  have HB2 := Lib.hid (HB1.out.trans (hb.mono (by omega)))
  clear hb
  have HX := Lib.hid (show w2.cell? ⟨w.heap.size, 1, none⟩ = some (.slice a' zs.length c') ∧ w2.cell? ⟨w.heap.size + 1, 0, none⟩ = some (.slice p ws.length q) ∧ w2.cell? ⟨w.heap.size + 1, 1, none⟩ = some (.int .i64 b) from ⟨x0_1, x1_0, x1_1⟩)
  go_wp2_with (refine wpList_make_full _ rfl _ _ 25 rfl w2.heap.size 3 i0 (.int .i64 0) 1 Try.underlying25 hi hz0 hz1 .i64 .i64 _ _ rows.length rfl rfl rfl rfl (by rw [hz2]; omega) (by unfold maxLen; omega) (Nat.le_refl _) ?_; intro w9 hown1 hgrow1; refine Hid.out ?_)
  refine Lib.hid ?_
  have hb1 : Below w2.heap.size w2 w9 := (Below.refl _ _).grown hgrow1 (Nat.le_refl _) (by simp)
  rw [show (Value.int .i64 0).cells = #[Value.int .i64 0] from rfl, Nat.mul_one, toList_madeCells_one, ← filled_zero rows zs ws b] at hown1
  clear hgrow1
  replace x0_0 := cell_below hb1 x0_0 (by omega)
  replace x0_1 := cell_below hb1 x0_1 (by omega)
  replace x1_0 := cell_below hb1 x1_0 (by omega)
  replace x1_1 := cell_below hb1 x1_1 (by omega)
  go_wp2_with fail
  go_loopw [25] (fun i wr => ∃ k : Nat, k ≤ rows.length ∧ i = .int .i64 k ∧ wr.ownsRow w2.heap.size 3 1 (.slice (some ⟨w2.heap.size, 0, none⟩) rows.length rows.length) rows.length (filled rows zs ws b rows.length k) ∧ Below w2.heap.size w2 wr) (fun i _ => rows.length - (intOf i).toNat)
  case atStart => exact ⟨0, Nat.zero_le _, rfl, hown1, hb1⟩
  case round =>
    obtain ⟨k, hk', rfl, hown, hbel⟩ := hrel
    clear x0_0 x0_1 x1_0 x1_1 hown1 hb1
    have hsz := hbel.size
    have HBl := Lib.hid hbel
    by_cases hlt : k < rows.length
    · obtain ⟨bl, off, rp, rq, hab, hbl, hc, hpq, hrow⟩ := (Hhr.out.below HB2.out).at hlt
      subst hab
      replace hc := cell_below hbel hc (by omega)
      obtain ⟨lb, lo, hlb, hll, hlc⟩ := (Hhz.out.below HB2.out).at (k := k) (by have := HL.out; omega)
      subst hlb
      replace hlc := cell_below hbel hlc (by omega)
      have hFk := HF.out k hlt
      obtain ⟨⟨d1, d2⟩, hy⟩ := HD.out k hlt
      have HT := Lib.hid (show ∀ wa : World, (wa.cell? ⟨w.heap.size, 1, none⟩ = some (.slice (some ⟨lb, lo, none⟩) zs.length c') ∧ wa.cell? ⟨w.heap.size + 1, 0, none⟩ = some (.slice p ws.length q) ∧ wa.cell? ⟨w.heap.size + 1, 1, none⟩ = some (.int .i64 b) ∧ wa.cell? ⟨bl, off + k, none⟩ = some (.slice rp (rows.getD k []).length rq) ∧ wa.cell? ⟨lb, lo + k, none⟩ = some (.int .i64 (zs.getD k 0)) ∧ Below w2.heap.size w2 wa) → wa.ownsRow w2.heap.size 3 1 (.slice (some ⟨w2.heap.size, 0, none⟩) rows.length rows.length) rows.length (filled rows zs ws b rows.length k) → Calls Try.prog 199 #[.slice p ws.length q, .slice rp (rows.getD k []).length rq] wa fun e w' => e = .returned (.int .i64 (dot ws (rows.getD k []))) ∧ w'.ownsRow w2.heap.size 3 1 (.slice (some ⟨w2.heap.size, 0, none⟩) rows.length rows.length) rows.length (filled rows zs ws b rows.length k) ∧ w'.cell? ⟨w2.heap.size, k, none⟩ = some (.int .i64 0) ∧ w'.frozen? ⟨w2.heap.size, k, none⟩ = false ∧ (w'.cell? ⟨w.heap.size, 1, none⟩ = some (.slice (some ⟨lb, lo, none⟩) zs.length c') ∧ w'.cell? ⟨w.heap.size + 1, 0, none⟩ = some (.slice p ws.length q) ∧ w'.cell? ⟨w.heap.size + 1, 1, none⟩ = some (.int .i64 b) ∧ w'.cell? ⟨bl, off + k, none⟩ = some (.slice rp (rows.getD k []).length rq) ∧ w'.cell? ⟨lb, lo + k, none⟩ = some (.int .i64 (zs.getD k 0)) ∧ Below w2.heap.size w2 w') from fun wa hS ho => by
        have hz' := hS.2.2.2.2.2.size
        have hB := HB2.out.trans (hS.2.2.2.2.2.mono (by omega))
        refine (impl_dot p ws q rp _ rq wa (Hhq.out.below hB) (hrow.below hS.2.2.2.2.2) hw (by omega) (by omega) hFk.2).mono ?_
        rintro e w' ⟨rfl, m, rfl⟩
        exact ⟨rfl, ho, by rw [show (wa.drewN m).cell? ⟨w2.heap.size, k, none⟩ = wa.cell? ⟨w2.heap.size, k, none⟩ from rfl, ho.cellAt k (by omega), filled_at rows zs ws b _ k hlt], ho.frozenAt k, hS.1, hS.2.1, hS.2.2.1, hS.2.2.2.1, hS.2.2.2.2.1, ints.below_drewN hS.2.2.2.2.2 m⟩)
      have HST := Lib.hid (show ∀ wa : World, wa.ownsRow w2.heap.size 3 1 (.slice (some ⟨w2.heap.size, 0, none⟩) rows.length rows.length) rows.length (filled rows zs ws b rows.length k) → (wa.setCell ⟨w2.heap.size, k, none⟩ (.int .i64 (mgAt rows zs ws b k))).ownsRow w2.heap.size 3 1 (.slice (some ⟨w2.heap.size, 0, none⟩) rows.length rows.length) rows.length (filled rows zs ws b rows.length (k + 1)) from fun wa ho => by
        have := ho.stored k (.int .i64 (mgAt rows zs ws b k))
        rw [filled_succ rows zs ws b _ k hlt] at this
        exact this.1)
      have i1 : (0 : Int) ≤ (k : Int) := by omega
      have i2 : (k : Int) < (rows.length : Int) := by omega
      have i3 : (k : Int) < (zs.length : Int) := by have := HL.out; omega
      have HO := Lib.hid hown
      have HM := Lib.hid (show mgAt rows zs ws b k = zs.getD k 0 * (2 * dot ws (rows.getD k []) - 2 * b + 1) from rfl)
      have x1 := cell_below hbel HX.out.1 (by omega)
      have y0 := cell_below hbel HX.out.2.1 (by omega)
      have y1 := cell_below hbel HX.out.2.2 (by omega)
      clear hrow hpq hFk hown hbel
      generalize hrr : rows.getD k [] = r at *
      generalize hzz : zs.getD k 0 = z at *
      clear hrr hzz
      generalize dot ws r = d at *
      have e1 : IntKind.i64.wrap (2 * d) = 2 * d := IntWalk.i64_in _ (by omega)
      have e2 : IntKind.i64.wrap (2 * b) = 2 * b := IntWalk.i64_in _ (by omega)
      have e3 : IntKind.i64.wrap (2 * d - 2 * b) = 2 * d - 2 * b := IntWalk.i64_in _ (by omega)
      have e4 : IntKind.i64.wrap (2 * d - 2 * b + 1) = 2 * d - 2 * b + 1 := IntWalk.i64_in _ (by omega)
      have e5 : IntKind.i64.wrap (z * (2 * d - 2 * b + 1)) = mgAt rows zs ws b k := by rw [HM.out]; exact IntWalk.i64_in _ (by rcases hy with rfl | rfl <;> omega)
      clear HM hy
      generalize hg : mgAt rows zs ws b k = g at *
      clear hg
      go_wp2_with fail
      go_region_held3 (fun w' => w'.cell? ⟨w.heap.size, 1, none⟩ = some (.slice (some ⟨lb, lo, none⟩) zs.length c') ∧ w'.cell? ⟨w.heap.size + 1, 0, none⟩ = some (.slice p ws.length q) ∧ w'.cell? ⟨w.heap.size + 1, 1, none⟩ = some (.int .i64 b) ∧ w'.cell? ⟨bl, off + k, none⟩ = some (.slice rp r.length rq) ∧ w'.cell? ⟨lb, lo + k, none⟩ = some (.int .i64 z) ∧ Below w2.heap.size w2 w') (first | assumption | exact ⟨x1, y0, y1, hc, hlc, HBl.out⟩ | exact ⟨x1, y0, y1, hc, hlc, HBl.out.drew⟩ | exact ⟨cell_set hbx.1 (by simp; omega) _, cell_set hbx.2.1 (by simp; omega) _, cell_set hbx.2.2.1 (by simp; omega) _, cell_set hbx.2.2.2.1 (by simp; omega) _, cell_set hbx.2.2.2.2.1 (by simp; omega) _, hbx.2.2.2.2.2.setCell (Nat.le_refl _) _⟩) (first | (go_at_call 199; refine Calls.mono (HT.out _ (by assumption) (by first | exact HO.out | exact HO.out.drew)) ?_; rintro e wq ⟨rfl, hoq, hcq, hfq, hbx⟩))
      have HBq := Lib.hid hbx.2.2.2.2.2
      have HSq := Lib.hid (HST.out wq hoq)
      clear hoq hcq hfq hbx
      go_wp2_with fail
      go_roundw
      case rel => exact ⟨k + 1, by omega, by go_num, HSq.out, HBq.out.setCell (Nat.le_refl _) _⟩
      case measure => simp [intOf]; omega
    · obtain rfl : k = rows.length := by omega
      rw [filled_all] at hown
      have HMn := Lib.hid (show Calls Try.prog 233 #[.slice (some ⟨w2.heap.size, 0, none⟩) rows.length rows.length] wr fun e w' => e = .returned (.int .i64 (leastTo rows zs ws b rows.length)) ∧ w' = wr from by
        have := Try.slices_Min_int w2.heap.size 0 rows.length rows.length (mgs rows zs ws b rows.length) wr h0 (by rw [mgs_length]; exact Nat.le_refl _) (by omega) (reads_at (OwnI.reads (OwnI.of (by rw [mgs_length]; exact hown))))
        rw [List.take_of_length_le (by rw [mgs_length]; exact Nat.le_refl _), mgs_min _ _ _ _ _ h0] at this
        exact this)
      clear hown hbel
      go_wp2_with fail
      refine HMn.out.mono ?_
      rintro e w' ⟨rfl, rfl⟩
      go_wp2_with fail
      go_ret2
      exact ⟨rfl, HB2.out.trans (HBl.out.mono (by omega))⟩
end Go.Proofs.Ytlgieeaccigbfaa.margin
