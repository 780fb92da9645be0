/- The walks of the model's and the program's bound on mistakes. -/
import Derived.Test.YtfooajnjkkpkiaaMargin
import Derived.Test.YtfooajnjkkpkiaaMisOf
import Derived.Lib.MinMax
namespace Go.Proofs.Ytfooajnjkkpkiaa.misbound
open Go.RowKit own pp nums samplesv samplest dots both sides margin mistakes
set_option linter.unusedVariables false
set_option linter.unusedSimpArgs false

/-- The greatest sum of 1 and the squares of the numbers of one of the first k points. -/
def farTo (rows : List (List Int)) : Nat → Int
  | 0 => 0
  | k + 1 => max (farTo rows k) (1 + dot (rows.getD k []) (rows.getD k []))
def size (ws : List Int) (b : Int) : Int := 4 * dot ws ws + (2 * b - 1) * (2 * b - 1)
/-- A sample with points and a plane that fits it. -/
def mbB (rows : List (List Int)) (zs ws : List Int) (b : Int) : Bool := mB rows zs ws b && decide (misTo rows zs ws b rows.length = [])
theorem mbB_iff (rows : List (List Int)) (zs ws : List Int) (b : Int) : mbB rows zs ws b = true ↔ mB rows zs ws b = true ∧ misTo rows zs ws b rows.length = [] := by simp [mbB]
def bound (rows : List (List Int)) (zs ws : List Int) (b : Int) : Int := farTo rows rows.length * size ws b / (leastTo rows zs ws b rows.length * leastTo rows zs ws b rows.length)

/-- A margin is greater than 0 exactly at a point that is no mistake. -/
theorem mg_pos {ws xs : List Int} {b y : Int} (hy : y = 1 ∨ y = -1) : 0 < mg ws b xs y ↔ side ws b xs = y := by
  unfold mg side
  rcases hy with rfl | rfl
  · split <;> constructor <;> intro h <;> first | rfl | omega | (simp at h)
  · split <;> constructor <;> intro h <;> first | rfl | omega | (simp at h)
theorem least_pos (rows : List (List Int)) (zs ws : List Int) (b : Int) (k : Nat) : 0 < leastTo rows zs ws b (k + 1) ↔ ∀ i, i < k + 1 → 0 < mgAt rows zs ws b i := by
  induction k with
  | zero =>
    show 0 < (if 0 = 0 ∨ _ then mgAt rows zs ws b 0 else _) ↔ _
    rw [if_pos (.inl rfl)]
    exact ⟨fun h i hi => by rw [show i = 0 by omega]; exact h, fun h => h 0 (by omega)⟩
  | succ k ih =>
    have e : leastTo rows zs ws b (k + 1 + 1) = if k + 1 = 0 ∨ mgAt rows zs ws b (k + 1) < leastTo rows zs ws b (k + 1) then mgAt rows zs ws b (k + 1) else leastTo rows zs ws b (k + 1) := rfl
    rw [e]
    constructor
    · intro h i hi
      by_cases hik : i = k + 1
      · rw [hik]; split at h <;> omega
      · refine (ih.1 ?_) i (by omega)
        split at h <;> omega
    · intro h
      have h1 := ih.2 fun i hi => h i (by omega)
      have h2 := h (k + 1) (by omega)
      split <;> omega
theorem mis_nil (rows : List (List Int)) (zs ws : List Int) (b : Int) (n : Nat) : misTo rows zs ws b n = [] ↔ ∀ i, i < n → side ws b (rows.getD i []) = zs.getD i 0 := by
  unfold misTo
  rw [List.map_eq_nil_iff, List.filter_eq_nil_iff]
  constructor
  · intro h i hi
    have := h i (List.mem_range.2 hi)
    simpa [isM] using this
  · intro h i hi
    have := h i (List.mem_range.1 hi)
    simp [isM] at this ⊢
    exact this
theorem fits_pos {rows : List (List Int)} {zs ws : List Int} {b : Int} (h : mB rows zs ws b = true) : misTo rows zs ws b rows.length = [] ↔ 0 < leastTo rows zs ws b rows.length := by
  obtain ⟨hbo, h0⟩ := (mB_iff _ _ _ _).1 h
  have hD := bd_of hbo
  rw [mis_nil]
  obtain ⟨k, hk⟩ : ∃ k, rows.length = k + 1 := ⟨rows.length - 1, by omega⟩
  rw [hk, least_pos]
  constructor
  · intro h i hi
    exact (mg_pos (hD i (by omega)).2).2 (h i hi)
  · intro h i hi
    exact (mg_pos (hD i (by omega)).2).1 (h i hi)
theorem dot_le {A : Int} {us vs : List Int} (hA : numsB A us = true) (hB : numsB A vs = true) (hl : us.length ≤ 4) (he : us.length ≤ vs.length) : -(A * A * 4) ≤ dot us vs ∧ dot us vs ≤ A * A * 4 ∨ us.length = 0 := by
  by_cases h0 : us.length = 0
  · exact .inr h0
  refine .inl ?_
  have hA0 := numsB_at hA 0 (by omega)
  have hAA : 0 ≤ A * A := Int.mul_nonneg (by omega) (by omega)
  have hb : ∀ k, k ≤ us.length → -(A * A * (k : Int)) ≤ dotTo us vs k ∧ dotTo us vs k ≤ A * A * (k : Int) := by
    intro k
    induction k with
    | zero => intro _; simp [dotTo_zero]
    | succ k ih =>
      intro hk
      have h1 := ih (by omega)
      have h4 := mul_bd (numsB_at hA k (by omega)).1 (numsB_at hA k (by omega)).2 (numsB_at hB k (by omega)).1 (numsB_at hB k (by omega)).2
      have e : A * A * ((k + 1 : Nat) : Int) = A * A * (k : Int) + A * A := by push_cast; rw [Int.mul_add, Int.mul_one]
      rw [dotTo_succ, e]
      omega
  have h1 := hb us.length (Nat.le_refl _)
  have h2 : A * A * (us.length : Int) ≤ A * A * 4 := Int.mul_le_mul_of_nonneg_left (by omega) hAA
  unfold dot
  omega
theorem sq_nonneg (us : List Int) (k : Nat) : 0 ≤ dotTo us us k := by
  induction k with
  | zero => simp [dotTo_zero]
  | succ k ih =>
    rw [dotTo_succ]
    have : 0 ≤ us.getD k 0 * us.getD k 0 := by
      rcases Int.le_total 0 (us.getD k 0) with h | h
      · exact Int.mul_nonneg h h
      · exact Int.mul_nonneg_of_nonpos_of_nonpos h h
    omega
/-- The bounds that the reckoning keeps. -/
theorem row_sq {rows : List (List Int)} {zs ws : List Int} {b : Int} (h : bothB rows zs ws b = true) (k : Nat) (hk : k < rows.length) : 0 ≤ dot (rows.getD k []) (rows.getD k []) ∧ dot (rows.getD k []) (rows.getD k []) ≤ 324 ∧ Small (rows.getD k []) (rows.getD k []) ∧ (rows.getD k []).length ≤ 4 := by
  obtain ⟨h1, h2, h3⟩ := (bothB_iff _ _ _ _).1 h
  obtain ⟨s1, s2, s3, s4⟩ := (sampleB_iff _ _).1 h1
  have hr := all_at _ [] rows s4 k hk
  simp only [Bool.and_eq_true, decide_eq_true_eq] at hr
  obtain ⟨p1, p2, p3⟩ := (pointB_iff _).1 hr.1
  refine ⟨sq_nonneg _ _, ?_, small_of p3 p3 (by decide) (Nat.le_refl _), p2⟩
  rcases dot_le p3 p3 p2 (Nat.le_refl _) with h | h <;> omega
theorem far_bd {rows : List (List Int)} {zs ws : List Int} {b : Int} (h : bothB rows zs ws b = true) (k : Nat) (hk : k ≤ rows.length) : 0 ≤ farTo rows k ∧ farTo rows k ≤ 325 := by
  induction k with
  | zero => simp [farTo]
  | succ k ih =>
    have h1 := ih (by omega)
    have h2 := row_sq h k (by omega)
    show 0 ≤ max _ _ ∧ max _ _ ≤ 325
    omega
theorem ws_sq {rows : List (List Int)} {zs ws : List Int} {b : Int} (h : bothB rows zs ws b = true) : 0 ≤ dot ws ws ∧ dot ws ws ≤ 39204 ∧ Small ws ws := by
  obtain ⟨h1, h2, h3⟩ := (bothB_iff _ _ _ _).1 h
  obtain ⟨p1, p2, p3, p4⟩ := (planeB_iff _ _).1 h2
  refine ⟨sq_nonneg _ _, ?_, small_of p3 p3 (by decide) (Nat.le_refl _)⟩
  rcases dot_le p3 p3 p2 (Nat.le_refl _) with h | h <;> omega
theorem least_bd {rows : List (List Int)} {zs ws : List Int} {b : Int} (h : bothB rows zs ws b = true) (k : Nat) (hk : k ≤ rows.length) : -7327 ≤ leastTo rows zs ws b k ∧ leastTo rows zs ws b k ≤ 7327 := by
  have hb := plane_b h
  induction k with
  | zero => simp [leastTo]
  | succ k ih =>
    have h1 := ih (by omega)
    obtain ⟨⟨d1, d2⟩, hy⟩ := bd_of h k (by omega)
    have hm : -7327 ≤ mgAt rows zs ws b k ∧ mgAt rows zs ws b k ≤ 7327 := by
      unfold mgAt mg
      rcases hy with e | e <;> rw [e] <;> omega
    have e : leastTo rows zs ws b (k + 1) = if k = 0 ∨ mgAt rows zs ws b k < leastTo rows zs ws b k then mgAt rows zs ws b k else leastTo rows zs ws b k := rfl
    rw [e]
    split <;> omega
theorem most_any (x y : Int) (w : World) :
    Calls Try.prog 108 #[.int .i64 x, .int .i64 y] w fun e w' => e = .returned (.int .i64 (max x y)) ∧ w' = w := by
  by_cases h : y < x
  · have e : max x y = x := by omega
    rw [e]
    have g : decide (y < x) = true := by simp [h]
    clear e
    go_enter Try.func108, Try.ntmps108
    go_wp2
    go_ret
    exact ⟨rfl, rfl⟩
  · have e : max x y = y := by omega
    rw [e]
    have g : decide (y < x) = false := by simp; omega
    clear e
    go_enter Try.func108, Try.ntmps108
    go_wp2
    go_ret
    exact ⟨rfl, rfl⟩

theorem fits_ok (a : Option Addr) (rows : List (List Int)) (c : Nat) (a' : Option Addr) (zs : List Int) (c' : Nat) (p : Option Addr) (ws : List Int) (q : Nat) (b : Int) (w : World) (hr : grid.Reads w a rows) (hq : ints.Reads .i64 w a' zs) (hp : ints.Reads .i64 w p ws) (hn : rows.length ≤ 1048576) (hz : zs.length ≤ 1048576) (hm : ∀ r ∈ rows, r.length ≤ 1048576) (hk : ws.length ≤ 1048576) (h : Hid (bothB rows zs ws b = true)) (ok : Bool) (hok : Hid (decide (misTo rows zs ws b rows.length = []) = ok)) :
    Calls Try.prog 130 #[.agg #[.slice a rows.length c, .slice a' zs.length c'], .agg #[.slice p ws.length q, .int .i64 b]] w (RetB ok w) := by
  rw [← hok.out]
  exact misof.spec_fits a rows c a' zs c' p ws q b w hr hq hp hn hz hm hk h
set_option maxRecDepth 100000 in
set_option maxHeartbeats 4000000 in
theorem spec_no (a : Option Addr) (rows : List (List Int)) (c : Nat) (a' : Option Addr) (zs : List Int) (c' : Nat) (p : Option Addr) (ws : List Int) (q : Nat) (b : Int) (w : World) (hr : grid.Reads w a rows) (hz : ints.Reads .i64 w a' zs) (hq : ints.Reads .i64 w p ws) (hn : rows.length ≤ 1048576) (hk : zs.length ≤ 1048576) (hm : ∀ r ∈ rows, r.length ≤ 1048576) (hw : ws.length ≤ 1048576) (h : Hid (mbB rows zs ws b = false)) :
    Calls Try.prog 68 #[.agg #[.slice a rows.length c, .slice a' zs.length c'], .agg #[.slice p ws.length q, .int .i64 b]] w (RetNB 0 false w) := by
  have HMM := Lib.hid hm
  clear hm
  cases hbo : bothB rows zs ws b
  · have HBo := Lib.hid hbo
    clear h hbo
    have Hhr := Lib.hid hr
    have Hhz := Lib.hid hz
    have Hhq := Lib.hid hq
    clear hr hz hq
    go_enter Try.func68, Try.ntmps68
    go_wp2_with fail
    have x0_0 : (w.alloc (.cells #[.slice a rows.length c, .slice a' zs.length c'] 27)).cell? ⟨w.heap.size, 0, none⟩ = some (.slice a rows.length c) := cell_new _ _ _ (by simp) rfl
    have x0_1 : (w.alloc (.cells #[.slice a rows.length c, .slice a' zs.length c'] 27)).cell? ⟨w.heap.size, 1, none⟩ = some (.slice a' zs.length c') := cell_new _ _ _ (by simp) rfl
    have HB0 := Lib.hid (below_alloc w (.cells #[.slice a rows.length c, .slice a' zs.length c'] 27))
    replace x0_0 := cell_old (.cells #[.slice p ws.length q, .int .i64 b] 31) x0_0
    replace x0_1 := cell_old (.cells #[.slice p ws.length q, .int .i64 b] 31) x0_1
    have x1_0 : ((w.alloc (.cells #[.slice a rows.length c, .slice a' zs.length c'] 27)).alloc (.cells #[.slice p ws.length q, .int .i64 b] 31)).cell? ⟨w.heap.size + 1, 0, none⟩ = some (.slice p ws.length q) := cell_new _ _ _ (by simp) rfl
    have x1_1 : ((w.alloc (.cells #[.slice a rows.length c, .slice a' zs.length c'] 27)).alloc (.cells #[.slice p ws.length q, .int .i64 b] 31)).cell? ⟨w.heap.size + 1, 1, none⟩ = some (.int .i64 b) := cell_new _ _ _ (by simp) rfl
    replace HB0 := Lib.hid (HB0.out.alloc (by simp) (.cells #[.slice p ws.length q, .int .i64 b] 31))
    have s0 : w.heap.size + 2 ≤ ((w.alloc (.cells #[.slice a rows.length c, .slice a' zs.length c'] 27)).alloc (.cells #[.slice p ws.length q, .int .i64 b] 31)).heap.size := by simp
    generalize hw : ((w.alloc (.cells #[.slice a rows.length c, .slice a' zs.length c'] 27)).alloc (.cells #[.slice p ws.length q, .int .i64 b] 31)) = w0 at *
    clear hw
    have n0_0 : w.heap.size < w0.heap.size := by omega
    have n0_1 : w.heap.size + 1 < w0.heap.size := by omega
    refine (spec_both a rows c a' zs c' p ws q b _ (Hhr.out.below HB0.out) (Hhz.out.below HB0.out) (Hhq.out.below HB0.out) hn hk HMM.out hw false HBo).mono ?_
    rintro e w1 ⟨rfl, hb⟩
    have s1 : w0.heap.size ≤ w1.heap.size := hb.size
    have n1_0 : w.heap.size < w1.heap.size := by omega
    have n1_1 : w.heap.size + 1 < w1.heap.size := by omega
    replace x0_0 := cell_below hb x0_0 (by omega)
    replace x0_1 := cell_below hb x0_1 (by omega)
    replace x1_0 := cell_below hb x1_0 (by omega)
    replace x1_1 := cell_below hb x1_1 (by omega)
    have HB1 := Lib.hid (HB0.out.trans (hb.mono (by omega)))
    clear hb
    go_wp2_with fail
    go_ret2
    exact ⟨rfl, HB1.out⟩
  by_cases h0 : 0 < rows.length
  · have HFt : Hid (decide (misTo rows zs ws b rows.length = []) = false) := Lib.hid (by have := h.out; simp [mbB, mB, hbo, h0] at this; simpa using this)
    have g0 : ((rows.length : Int) == 0) = false := by rw [beq_eq_false_iff_ne]; omega
    have HBo := Lib.hid hbo
    clear h hbo
    have Hhr := Lib.hid hr
    have Hhz := Lib.hid hz
    have Hhq := Lib.hid hq
    clear hr hz hq
    go_enter Try.func68, Try.ntmps68
    go_wp2_with fail
    have x0_0 : (w.alloc (.cells #[.slice a rows.length c, .slice a' zs.length c'] 27)).cell? ⟨w.heap.size, 0, none⟩ = some (.slice a rows.length c) := cell_new _ _ _ (by simp) rfl
    have x0_1 : (w.alloc (.cells #[.slice a rows.length c, .slice a' zs.length c'] 27)).cell? ⟨w.heap.size, 1, none⟩ = some (.slice a' zs.length c') := cell_new _ _ _ (by simp) rfl
    have HB0 := Lib.hid (below_alloc w (.cells #[.slice a rows.length c, .slice a' zs.length c'] 27))
    replace x0_0 := cell_old (.cells #[.slice p ws.length q, .int .i64 b] 31) x0_0
    replace x0_1 := cell_old (.cells #[.slice p ws.length q, .int .i64 b] 31) x0_1
    have x1_0 : ((w.alloc (.cells #[.slice a rows.length c, .slice a' zs.length c'] 27)).alloc (.cells #[.slice p ws.length q, .int .i64 b] 31)).cell? ⟨w.heap.size + 1, 0, none⟩ = some (.slice p ws.length q) := cell_new _ _ _ (by simp) rfl
    have x1_1 : ((w.alloc (.cells #[.slice a rows.length c, .slice a' zs.length c'] 27)).alloc (.cells #[.slice p ws.length q, .int .i64 b] 31)).cell? ⟨w.heap.size + 1, 1, none⟩ = some (.int .i64 b) := cell_new _ _ _ (by simp) rfl
    replace HB0 := Lib.hid (HB0.out.alloc (by simp) (.cells #[.slice p ws.length q, .int .i64 b] 31))
    have s0 : w.heap.size + 2 ≤ ((w.alloc (.cells #[.slice a rows.length c, .slice a' zs.length c'] 27)).alloc (.cells #[.slice p ws.length q, .int .i64 b] 31)).heap.size := by simp
    generalize hw : ((w.alloc (.cells #[.slice a rows.length c, .slice a' zs.length c'] 27)).alloc (.cells #[.slice p ws.length q, .int .i64 b] 31)) = w0 at *
    clear hw
    have n0_0 : w.heap.size < w0.heap.size := by omega
    have n0_1 : w.heap.size + 1 < w0.heap.size := by omega
    refine (spec_both a rows c a' zs c' p ws q b _ (Hhr.out.below HB0.out) (Hhz.out.below HB0.out) (Hhq.out.below HB0.out) hn hk HMM.out hw true HBo).mono ?_
    rintro e w1 ⟨rfl, hb⟩
    have s1 : w0.heap.size ≤ w1.heap.size := hb.size
    have n1_0 : w.heap.size < w1.heap.size := by omega
    have n1_1 : w.heap.size + 1 < w1.heap.size := by omega
    replace x0_0 := cell_below hb x0_0 (by omega)
    replace x0_1 := cell_below hb x0_1 (by omega)
    replace x1_0 := cell_below hb x1_0 (by omega)
    replace x1_1 := cell_below hb x1_1 (by omega)
    have HB1 := Lib.hid (HB0.out.trans (hb.mono (by omega)))
    clear hb
    go_wp2_with fail
    refine (fits_ok a rows c a' zs c' p ws q b _ (Hhr.out.below HB1.out) (Hhz.out.below HB1.out) (Hhq.out.below HB1.out) hn hk HMM.out hw HBo false HFt).mono ?_
    rintro e w2 ⟨rfl, hb⟩
    have s2 : w1.heap.size ≤ w2.heap.size := hb.size
    have n2_0 : w.heap.size < w2.heap.size := by omega
    have n2_1 : w.heap.size + 1 < w2.heap.size := by omega
    replace x0_0 := cell_below hb x0_0 (by omega)
    replace x0_1 := cell_below hb x0_1 (by omega)
    replace x1_0 := cell_below hb x1_0 (by omega)
    replace x1_1 := cell_below hb x1_1 (by omega)
    have HB2 := Lib.hid (HB1.out.trans (hb.mono (by omega)))
    clear hb
    go_wp2_with fail
    go_ret2
    exact ⟨rfl, HB2.out⟩
  have g0 : ((rows.length : Int) == 0) = true := by rw [beq_iff_eq]; omega
  have HBo := Lib.hid hbo
  clear h hbo h0
  have Hhr := Lib.hid hr
  have Hhz := Lib.hid hz
  have Hhq := Lib.hid hq
  clear hr hz hq
  go_enter Try.func68, Try.ntmps68
  go_wp2_with fail
  have x0_0 : (w.alloc (.cells #[.slice a rows.length c, .slice a' zs.length c'] 27)).cell? ⟨w.heap.size, 0, none⟩ = some (.slice a rows.length c) := cell_new _ _ _ (by simp) rfl
  have x0_1 : (w.alloc (.cells #[.slice a rows.length c, .slice a' zs.length c'] 27)).cell? ⟨w.heap.size, 1, none⟩ = some (.slice a' zs.length c') := cell_new _ _ _ (by simp) rfl
  have HB0 := Lib.hid (below_alloc w (.cells #[.slice a rows.length c, .slice a' zs.length c'] 27))
  replace x0_0 := cell_old (.cells #[.slice p ws.length q, .int .i64 b] 31) x0_0
  replace x0_1 := cell_old (.cells #[.slice p ws.length q, .int .i64 b] 31) x0_1
  have x1_0 : ((w.alloc (.cells #[.slice a rows.length c, .slice a' zs.length c'] 27)).alloc (.cells #[.slice p ws.length q, .int .i64 b] 31)).cell? ⟨w.heap.size + 1, 0, none⟩ = some (.slice p ws.length q) := cell_new _ _ _ (by simp) rfl
  have x1_1 : ((w.alloc (.cells #[.slice a rows.length c, .slice a' zs.length c'] 27)).alloc (.cells #[.slice p ws.length q, .int .i64 b] 31)).cell? ⟨w.heap.size + 1, 1, none⟩ = some (.int .i64 b) := cell_new _ _ _ (by simp) rfl
  replace HB0 := Lib.hid (HB0.out.alloc (by simp) (.cells #[.slice p ws.length q, .int .i64 b] 31))
  have s0 : w.heap.size + 2 ≤ ((w.alloc (.cells #[.slice a rows.length c, .slice a' zs.length c'] 27)).alloc (.cells #[.slice p ws.length q, .int .i64 b] 31)).heap.size := by simp
  generalize hw : ((w.alloc (.cells #[.slice a rows.length c, .slice a' zs.length c'] 27)).alloc (.cells #[.slice p ws.length q, .int .i64 b] 31)) = w0 at *
  clear hw
  have n0_0 : w.heap.size < w0.heap.size := by omega
  have n0_1 : w.heap.size + 1 < w0.heap.size := by omega
  refine (spec_both a rows c a' zs c' p ws q b _ (Hhr.out.below HB0.out) (Hhz.out.below HB0.out) (Hhq.out.below HB0.out) hn hk HMM.out hw true HBo).mono ?_
  rintro e w1 ⟨rfl, hb⟩
  have s1 : w0.heap.size ≤ w1.heap.size := hb.size
  have n1_0 : w.heap.size < w1.heap.size := by omega
  have n1_1 : w.heap.size + 1 < w1.heap.size := by omega
  replace x0_0 := cell_below hb x0_0 (by omega)
  replace x0_1 := cell_below hb x0_1 (by omega)
  replace x1_0 := cell_below hb x1_0 (by omega)
  replace x1_1 := cell_below hb x1_1 (by omega)
  have HB1 := Lib.hid (HB0.out.trans (hb.mono (by omega)))
  clear hb
  go_wp2_with fail
  go_ret2
  exact ⟨rfl, HB1.out⟩
set_option maxRecDepth 100000 in
set_option maxHeartbeats 4000000 in
theorem spec_yes (a : Option Addr) (rows : List (List Int)) (c : Nat) (a' : Option Addr) (zs : List Int) (c' : Nat) (p : Option Addr) (ws : List Int) (q : Nat) (b : Int) (w : World) (hr : grid.Reads w a rows) (hz : ints.Reads .i64 w a' zs) (hq : ints.Reads .i64 w p ws) (hn : rows.length ≤ 1048576) (hk : zs.length ≤ 1048576) (hm : ∀ r ∈ rows, r.length ≤ 1048576) (hw : ws.length ≤ 1048576) (h : Hid (mbB rows zs ws b = true)) :
    Calls Try.prog 68 #[.agg #[.slice a rows.length c, .slice a' zs.length c'], .agg #[.slice p ws.length q, .int .i64 b]] w (RetNB (bound rows zs ws b) true w) := by
  have HMM := Lib.hid hm
  obtain ⟨hmb, hft⟩ := (mbB_iff _ _ _ _).1 h.out
  obtain ⟨hbo, h0⟩ := (mB_iff _ _ _ _).1 hmb
  have hpos := (fits_pos hmb).1 hft
  have hle := least_bd hbo rows.length (Nat.le_refl _)
  have hfar := far_bd hbo rows.length (Nat.le_refl _)
  have HFB := Lib.hid (fun (k : Nat) (hk : k ≤ rows.length) => far_bd hbo k hk)
  have HSQ := Lib.hid (fun (k : Nat) (hk : k < rows.length) => row_sq hbo k hk)
  obtain ⟨w1', w2', w3'⟩ := ws_sq hbo
  have HWS := Lib.hid w3'
  have HFt : Hid (decide (misTo rows zs ws b rows.length = []) = true) := Lib.hid (by simpa using hft)
  have g0 : ((rows.length : Int) == 0) = false := by rw [beq_eq_false_iff_ne]; omega
  have hn16 := (fit_of hbo).2
  have HF := Lib.hid (fit_of hbo).1
  have HD := Lib.hid (bd_of hbo)
  have hbb := plane_b hbo
  have HL := Lib.hid ((sampleB_iff _ _).1 ((bothB_iff _ _ _ _).1 hbo).1).2.1
  have HMB := Lib.hid hmb
  have HBo := Lib.hid hbo
  have HV := Lib.hid (show bound rows zs ws b = farTo rows rows.length * (4 * dot ws ws + (2 * b - 1) * (2 * b - 1)) / (leastTo rows zs ws b rows.length * leastTo rows zs ws b rows.length) from rfl)
  clear hm hbo hmb hft w3'
  have Hhr := Lib.hid hr
  have Hhz := Lib.hid hz
  have Hhq := Lib.hid hq
  clear hr hz hq
  go_enter Try.func68, Try.ntmps68
  go_wp2_with fail
  have x0_0 : (w.alloc (.cells #[.slice a rows.length c, .slice a' zs.length c'] 27)).cell? ⟨w.heap.size, 0, none⟩ = some (.slice a rows.length c) := cell_new _ _ _ (by simp) rfl
  have x0_1 : (w.alloc (.cells #[.slice a rows.length c, .slice a' zs.length c'] 27)).cell? ⟨w.heap.size, 1, none⟩ = some (.slice a' zs.length c') := cell_new _ _ _ (by simp) rfl
  have HB0 := Lib.hid (below_alloc w (.cells #[.slice a rows.length c, .slice a' zs.length c'] 27))
  replace x0_0 := cell_old (.cells #[.slice p ws.length q, .int .i64 b] 31) x0_0
  replace x0_1 := cell_old (.cells #[.slice p ws.length q, .int .i64 b] 31) x0_1
  have x1_0 : ((w.alloc (.cells #[.slice a rows.length c, .slice a' zs.length c'] 27)).alloc (.cells #[.slice p ws.length q, .int .i64 b] 31)).cell? ⟨w.heap.size + 1, 0, none⟩ = some (.slice p ws.length q) := cell_new _ _ _ (by simp) rfl
  have x1_1 : ((w.alloc (.cells #[.slice a rows.length c, .slice a' zs.length c'] 27)).alloc (.cells #[.slice p ws.length q, .int .i64 b] 31)).cell? ⟨w.heap.size + 1, 1, none⟩ = some (.int .i64 b) := cell_new _ _ _ (by simp) rfl
  replace HB0 := Lib.hid (HB0.out.alloc (by simp) (.cells #[.slice p ws.length q, .int .i64 b] 31))
  have s0 : w.heap.size + 2 ≤ ((w.alloc (.cells #[.slice a rows.length c, .slice a' zs.length c'] 27)).alloc (.cells #[.slice p ws.length q, .int .i64 b] 31)).heap.size := by simp
  generalize hw : ((w.alloc (.cells #[.slice a rows.length c, .slice a' zs.length c'] 27)).alloc (.cells #[.slice p ws.length q, .int .i64 b] 31)) = w0 at *
  clear hw
  have n0_0 : w.heap.size < w0.heap.size := by omega
  have n0_1 : w.heap.size + 1 < w0.heap.size := by omega
  refine (spec_both a rows c a' zs c' p ws q b _ (Hhr.out.below HB0.out) (Hhz.out.below HB0.out) (Hhq.out.below HB0.out) hn hk HMM.out hw true HBo).mono ?_
  rintro e w1 ⟨rfl, hb⟩
  have s1 : w0.heap.size ≤ w1.heap.size := hb.size
  have n1_0 : w.heap.size < w1.heap.size := by omega
  have n1_1 : w.heap.size + 1 < w1.heap.size := by omega
  replace x0_0 := cell_below hb x0_0 (by omega)
  replace x0_1 := cell_below hb x0_1 (by omega)
  replace x1_0 := cell_below hb x1_0 (by omega)
  replace x1_1 := cell_below hb x1_1 (by omega)
  have HB1 := Lib.hid (HB0.out.trans (hb.mono (by omega)))
  clear hb
  go_wp2_with fail
  refine (fits_ok a rows c a' zs c' p ws q b _ (Hhr.out.below HB1.out) (Hhz.out.below HB1.out) (Hhq.out.below HB1.out) hn hk HMM.out hw HBo true HFt).mono ?_
  rintro e w2 ⟨rfl, hb⟩
  have s2 : w1.heap.size ≤ w2.heap.size := hb.size
  have n2_0 : w.heap.size < w2.heap.size := by omega
  have n2_1 : w.heap.size + 1 < w2.heap.size := by omega
  replace x0_0 := cell_below hb x0_0 (by omega)
  replace x0_1 := cell_below hb x0_1 (by omega)
  replace x1_0 := cell_below hb x1_0 (by omega)
  replace x1_1 := cell_below hb x1_1 (by omega)
  have HB2 := Lib.hid (HB1.out.trans (hb.mono (by omega)))
  clear hb
  go_wp2_with fail
  have HX := Lib.hid (show w2.cell? ⟨w.heap.size, 0, none⟩ = some (.slice a rows.length c) ∧ w2.cell? ⟨w.heap.size, 1, none⟩ = some (.slice a' zs.length c') ∧ w2.cell? ⟨w.heap.size + 1, 0, none⟩ = some (.slice p ws.length q) ∧ w2.cell? ⟨w.heap.size + 1, 1, none⟩ = some (.int .i64 b) from ⟨x0_0, x0_1, x1_0, x1_1⟩)
  go_loopw [6, 7] (fun v i wr => ∃ k : Nat, k ≤ rows.length ∧ i = .int .i64 k ∧ v = .int .i64 (farTo rows k) ∧ Below w2.heap.size w2 wr) (fun _ i _ => rows.length - (intOf i).toNat)
  case atStart => exact ⟨0, Nat.zero_le _, rfl, rfl, Below.refl _ _⟩
  case round =>
    obtain ⟨k, hk', rfl, rfl, hbel⟩ := hrel
    have hsz := hbel.size
    have HBl := Lib.hid hbel
    replace x0_0 := cell_below hbel HX.out.1 (by omega)
    replace x0_1 := cell_below hbel HX.out.2.1 (by omega)
    replace x1_0 := cell_below hbel HX.out.2.2.1 (by omega)
    replace x1_1 := cell_below hbel HX.out.2.2.2 (by omega)
    by_cases hlt : k < rows.length
    · obtain ⟨bl, off, rp, rq, hab, hbl, hc, hpq, hrow⟩ := (Hhr.out.below HB2.out).at hlt
      subst hab
      replace hc := cell_below hbel hc (by omega)
      obtain ⟨q1, q2, q3, q4⟩ := HSQ.out k hlt
      obtain ⟨f1, f2⟩ := HFB.out k hk'
      have HC := Lib.hid (show ∀ m : Nat, Calls Try.prog 131 #[.slice rp (rows.getD k []).length rq, .slice rp (rows.getD k []).length rq] (wr.drewN m) (Tells (dot (rows.getD k []) (rows.getD k [])) (wr.drewN m)) from fun m => spec_dot rp _ rq rp _ rq _ (hrow.below (ints.below_drewN HBl.out m)) (hrow.below (ints.below_drewN HBl.out m)) (by omega) (Nat.le_refl _) (by omega) q3)
      have i1 : (0 : Int) ≤ (k : Int) := by omega
      have i2 : (k : Int) < (rows.length : Int) := by omega
      have HE := Lib.hid (show farTo rows (k + 1) = max (farTo rows k) (1 + dot (rows.getD k []) (rows.getD k [])) from rfl)
      clear hrow hpq hbel q3
      generalize rows.getD k [] = r at *
      generalize dot r r = d at *
      generalize farTo rows k = l at *
      have e1 : IntKind.i64.wrap (1 + d) = 1 + d := IntWalk.i64_in _ (by omega)
      go_wp2_with fail
      go_quiet ((first | (go_at_call 131; exact Calls.quiet_of (HC.out _)) | (go_at_call 108; exact Calls.quiet_of_same (most_any _ _ _))))
      clear e1
      go_wp2_with fail
      go_roundw
      case rel => exact ⟨k + 1, by omega, by go_num, by rw [HE.out], ints.below_drewN HBl.out _⟩
      case measure => simp [intOf]; omega
    · obtain rfl : k = rows.length := by omega
      have HC := Lib.hid (show ∀ m : Nat, Calls Try.prog 131 #[.slice p ws.length q, .slice p ws.length q] (wr.drewN m) (Tells (dot ws ws) (wr.drewN m)) from fun m => spec_dot p ws q p ws q _ (Hhq.out.below (HB2.out.trans ((ints.below_drewN HBl.out m).mono (by omega)))) (Hhq.out.below (HB2.out.trans ((ints.below_drewN HBl.out m).mono (by omega)))) hw (Nat.le_refl _) hw HWS.out)
      have HMG := Lib.hid (show ∀ m : Nat, Calls Try.prog 126 #[.agg #[.slice a rows.length c, .slice a' zs.length c'], .agg #[.slice p ws.length q, .int .i64 b]] (wr.drewN m) (RetN (leastTo rows zs ws b rows.length) (wr.drewN m)) from fun m =>
        margin.spec_margin a rows c a' zs c' p ws q b _ (Hhr.out.below (HB2.out.trans ((ints.below_drewN HBl.out m).mono (by omega)))) (Hhz.out.below (HB2.out.trans ((ints.below_drewN HBl.out m).mono (by omega)))) (Hhq.out.below (HB2.out.trans ((ints.below_drewN HBl.out m).mono (by omega)))) HL.out (by omega) hw HF.out HD.out hbb)
      clear hbel
      generalize farTo rows rows.length = far at *
      generalize leastTo rows zs ws b rows.length = mm at *
      generalize dot ws ws = d at *
      obtain ⟨b1, b2⟩ := hbb
      obtain ⟨s1', s2'⟩ := mul_bd (A := 199) (B := 199) (x := 2 * b - 1) (y := 2 * b - 1) (by omega) (by omega) (by omega) (by omega)
      have s0' : 0 ≤ (2 * b - 1) * (2 * b - 1) := by
        rcases Int.le_total 0 (2 * b - 1) with h | h
        · exact Int.mul_nonneg h h
        · exact Int.mul_nonneg_of_nonpos_of_nonpos h h
      obtain ⟨sq, hsq⟩ : ∃ sq, sq = (2 * b - 1) * (2 * b - 1) := ⟨_, rfl⟩
      have e1 : IntKind.i64.wrap (2 * b) = 2 * b := IntWalk.i64_in _ (by omega)
      have e2 : IntKind.i64.wrap (2 * b - 1) = 2 * b - 1 := IntWalk.i64_in _ (by omega)
      have e3 : IntKind.i64.wrap ((2 * b - 1) * (2 * b - 1)) = sq := by rw [hsq]; exact IntWalk.i64_in _ (by omega)
      rw [← hsq] at s0' s1' s2' HV
      have e4 : IntKind.i64.wrap (4 * d) = 4 * d := IntWalk.i64_in _ (by omega)
      have e5 : IntKind.i64.wrap (4 * d + sq) = 4 * d + sq := IntWalk.i64_in _ (by omega)
      obtain ⟨u1, u2⟩ := mul_bd (A := 325) (B := 200000) (x := far) (y := 4 * d + sq) (by omega) (by omega) (by omega) (by omega)
      have u0 : 0 ≤ far * (4 * d + sq) := Int.mul_nonneg (by omega) (by omega)
      obtain ⟨v1, v2⟩ := mul_bd (A := 7327) (B := 7327) (x := mm) (y := mm) (by omega) (by omega) (by omega) (by omega)
      have v0 : 0 < mm * mm := Int.mul_pos hpos hpos
      obtain ⟨up, hup⟩ : ∃ up, up = far * (4 * d + sq) := ⟨_, rfl⟩
      obtain ⟨lo, hlo⟩ : ∃ lo, lo = mm * mm := ⟨_, rfl⟩
      have e6 : IntKind.i64.wrap (far * (4 * d + sq)) = up := by rw [hup]; exact IntWalk.i64_in _ (by omega)
      have e7 : IntKind.i64.wrap (mm * mm) = lo := by rw [hlo]; exact IntWalk.i64_in _ (by omega)
      rw [← hup, ← hlo] at HV
      rw [← hup] at u0 u1 u2
      rw [← hlo] at v0 v1 v2
      have z0 : (lo == 0) = false := by rw [beq_eq_false_iff_ne]; omega
      clear hsq hup hlo
      go_wp2_with fail
      go_quiet ((go_at_call 131; exact Calls.quiet_of (HC.out _)))
      go_wp2_with fail
      refine (HMG.out _).mono ?_
      rintro e w9 ⟨rfl, hb⟩
      have HB9 := Lib.hid hb
      clear hb
      go_wp2_with fail
      go_ret2
      exact ⟨congrArg (fun x => Ending.returned (.tuple #[.int .i64 x, .bool true])) HV.out.symm, HB2.out.trans (((ints.below_drewN HBl.out _).trans (HB9.out.mono (ints.below_drewN HBl.out _).size)).mono (by omega))⟩
set_option maxRecDepth 100000 in
set_option maxHeartbeats 4000000 in
theorem impl_no (a : Option Addr) (rows : List (List Int)) (c : Nat) (a' : Option Addr) (zs : List Int) (c' : Nat) (p : Option Addr) (ws : List Int) (q : Nat) (b : Int) (w : World) (hr : grid.Reads w a rows) (hz : ints.Reads .i64 w a' zs) (hq : ints.Reads .i64 w p ws) (hn : rows.length ≤ 1048576) (hk : zs.length ≤ 1048576) (hm : ∀ r ∈ rows, r.length ≤ 1048576) (hw : ws.length ≤ 1048576) (h : Hid (mbB rows zs ws b = false)) :
    Calls Try.prog 69 #[.agg #[.slice a rows.length c, .slice a' zs.length c'], .agg #[.slice p ws.length q, .int .i64 b]] w (RetNB 0 false w) := by
  have HMM := Lib.hid hm
  cases hmb : mB rows zs ws b
  · have HMB := Lib.hid hmb
    clear h hmb hm
    have Hhr := Lib.hid hr
    have Hhz := Lib.hid hz
    have Hhq := Lib.hid hq
    clear hr hz hq
    go_enter Try.func69, Try.ntmps69
    go_wp2_with fail
    have x0_0 : (w.alloc (.cells #[.slice a rows.length c, .slice a' zs.length c'] 27)).cell? ⟨w.heap.size, 0, none⟩ = some (.slice a rows.length c) := cell_new _ _ _ (by simp) rfl
    have x0_1 : (w.alloc (.cells #[.slice a rows.length c, .slice a' zs.length c'] 27)).cell? ⟨w.heap.size, 1, none⟩ = some (.slice a' zs.length c') := cell_new _ _ _ (by simp) rfl
    have HB0 := Lib.hid (below_alloc w (.cells #[.slice a rows.length c, .slice a' zs.length c'] 27))
    replace x0_0 := cell_old (.cells #[.slice p ws.length q, .int .i64 b] 31) x0_0
    replace x0_1 := cell_old (.cells #[.slice p ws.length q, .int .i64 b] 31) x0_1
    have x1_0 : ((w.alloc (.cells #[.slice a rows.length c, .slice a' zs.length c'] 27)).alloc (.cells #[.slice p ws.length q, .int .i64 b] 31)).cell? ⟨w.heap.size + 1, 0, none⟩ = some (.slice p ws.length q) := cell_new _ _ _ (by simp) rfl
    have x1_1 : ((w.alloc (.cells #[.slice a rows.length c, .slice a' zs.length c'] 27)).alloc (.cells #[.slice p ws.length q, .int .i64 b] 31)).cell? ⟨w.heap.size + 1, 1, none⟩ = some (.int .i64 b) := cell_new _ _ _ (by simp) rfl
    replace HB0 := Lib.hid (HB0.out.alloc (by simp) (.cells #[.slice p ws.length q, .int .i64 b] 31))
    have s0 : w.heap.size + 2 ≤ ((w.alloc (.cells #[.slice a rows.length c, .slice a' zs.length c'] 27)).alloc (.cells #[.slice p ws.length q, .int .i64 b] 31)).heap.size := by simp
    generalize hw : ((w.alloc (.cells #[.slice a rows.length c, .slice a' zs.length c'] 27)).alloc (.cells #[.slice p ws.length q, .int .i64 b] 31)) = w0 at *
    clear hw
    have n0_0 : w.heap.size < w0.heap.size := by omega
    have n0_1 : w.heap.size + 1 < w0.heap.size := by omega
    refine (margin.impl_no a rows c a' zs c' p ws q b _ (Hhr.out.below HB0.out) (Hhz.out.below HB0.out) (Hhq.out.below HB0.out) hn hk HMM.out hw HMB).mono ?_
    rintro e w1 ⟨rfl, hb⟩
    have s1 : w0.heap.size ≤ w1.heap.size := hb.size
    have n1_0 : w.heap.size < w1.heap.size := by omega
    have n1_1 : w.heap.size + 1 < w1.heap.size := by omega
    replace x0_0 := cell_below hb x0_0 (by omega)
    replace x0_1 := cell_below hb x0_1 (by omega)
    replace x1_0 := cell_below hb x1_0 (by omega)
    replace x1_1 := cell_below hb x1_1 (by omega)
    have HB1 := Lib.hid (HB0.out.trans (hb.mono (by omega)))
    clear hb
    go_wp2_with fail
    go_ret2
    exact ⟨rfl, HB1.out⟩
  have g1 : decide (leastTo rows zs ws b rows.length ≤ 0) = true := by
    have h1 := h.out
    simp [mbB, hmb] at h1
    have := mt (fits_pos hmb).2 h1
    simp; omega
  have HMB := Lib.hid hmb
  clear h hmb hm
  have Hhr := Lib.hid hr
  have Hhz := Lib.hid hz
  have Hhq := Lib.hid hq
  clear hr hz hq
  go_enter Try.func69, Try.ntmps69
  go_wp2_with fail
  have x0_0 : (w.alloc (.cells #[.slice a rows.length c, .slice a' zs.length c'] 27)).cell? ⟨w.heap.size, 0, none⟩ = some (.slice a rows.length c) := cell_new _ _ _ (by simp) rfl
  have x0_1 : (w.alloc (.cells #[.slice a rows.length c, .slice a' zs.length c'] 27)).cell? ⟨w.heap.size, 1, none⟩ = some (.slice a' zs.length c') := cell_new _ _ _ (by simp) rfl
  have HB0 := Lib.hid (below_alloc w (.cells #[.slice a rows.length c, .slice a' zs.length c'] 27))
  replace x0_0 := cell_old (.cells #[.slice p ws.length q, .int .i64 b] 31) x0_0
  replace x0_1 := cell_old (.cells #[.slice p ws.length q, .int .i64 b] 31) x0_1
  have x1_0 : ((w.alloc (.cells #[.slice a rows.length c, .slice a' zs.length c'] 27)).alloc (.cells #[.slice p ws.length q, .int .i64 b] 31)).cell? ⟨w.heap.size + 1, 0, none⟩ = some (.slice p ws.length q) := cell_new _ _ _ (by simp) rfl
  have x1_1 : ((w.alloc (.cells #[.slice a rows.length c, .slice a' zs.length c'] 27)).alloc (.cells #[.slice p ws.length q, .int .i64 b] 31)).cell? ⟨w.heap.size + 1, 1, none⟩ = some (.int .i64 b) := cell_new _ _ _ (by simp) rfl
  replace HB0 := Lib.hid (HB0.out.alloc (by simp) (.cells #[.slice p ws.length q, .int .i64 b] 31))
  have s0 : w.heap.size + 2 ≤ ((w.alloc (.cells #[.slice a rows.length c, .slice a' zs.length c'] 27)).alloc (.cells #[.slice p ws.length q, .int .i64 b] 31)).heap.size := by simp
  generalize hw : ((w.alloc (.cells #[.slice a rows.length c, .slice a' zs.length c'] 27)).alloc (.cells #[.slice p ws.length q, .int .i64 b] 31)) = w0 at *
  clear hw
  have n0_0 : w.heap.size < w0.heap.size := by omega
  have n0_1 : w.heap.size + 1 < w0.heap.size := by omega
  refine (margin.impl_yes a rows c a' zs c' p ws q b _ (Hhr.out.below HB0.out) (Hhz.out.below HB0.out) (Hhq.out.below HB0.out) hn hk HMM.out hw HMB).mono ?_
  rintro e w1 ⟨rfl, hb⟩
  have s1 : w0.heap.size ≤ w1.heap.size := hb.size
  have n1_0 : w.heap.size < w1.heap.size := by omega
  have n1_1 : w.heap.size + 1 < w1.heap.size := by omega
  replace x0_0 := cell_below hb x0_0 (by omega)
  replace x0_1 := cell_below hb x0_1 (by omega)
  replace x1_0 := cell_below hb x1_0 (by omega)
  replace x1_1 := cell_below hb x1_1 (by omega)
  have HB1 := Lib.hid (HB0.out.trans (hb.mono (by omega)))
  clear hb
  go_wp2_with fail
  go_ret2
  exact ⟨rfl, HB1.out⟩
set_option maxRecDepth 100000 in
set_option maxHeartbeats 4000000 in
theorem impl_yes (a : Option Addr) (rows : List (List Int)) (c : Nat) (a' : Option Addr) (zs : List Int) (c' : Nat) (p : Option Addr) (ws : List Int) (q : Nat) (b : Int) (w : World) (hr : grid.Reads w a rows) (hz : ints.Reads .i64 w a' zs) (hq : ints.Reads .i64 w p ws) (hn : rows.length ≤ 1048576) (hk : zs.length ≤ 1048576) (hm : ∀ r ∈ rows, r.length ≤ 1048576) (hw : ws.length ≤ 1048576) (h : Hid (mbB rows zs ws b = true)) :
    Calls Try.prog 69 #[.agg #[.slice a rows.length c, .slice a' zs.length c'], .agg #[.slice p ws.length q, .int .i64 b]] w (RetNB (bound rows zs ws b) true w) := by
  have HMM := Lib.hid hm
  obtain ⟨hmb, hft⟩ := (mbB_iff _ _ _ _).1 h.out
  obtain ⟨hbo, h0⟩ := (mB_iff _ _ _ _).1 hmb
  have hpos := (fits_pos hmb).1 hft
  have hle := least_bd hbo rows.length (Nat.le_refl _)
  have hfar := far_bd hbo rows.length (Nat.le_refl _)
  have HFB := Lib.hid (fun (k : Nat) (hk : k ≤ rows.length) => far_bd hbo k hk)
  have HSQ := Lib.hid (fun (k : Nat) (hk : k < rows.length) => row_sq hbo k hk)
  obtain ⟨w1', w2', w3'⟩ := ws_sq hbo
  have HWS := Lib.hid w3'
  have HFt : Hid (decide (misTo rows zs ws b rows.length = []) = true) := Lib.hid (by simpa using hft)
  have g0 : ((rows.length : Int) == 0) = false := by rw [beq_eq_false_iff_ne]; omega
  have hn16 := (fit_of hbo).2
  have HF := Lib.hid (fit_of hbo).1
  have HD := Lib.hid (bd_of hbo)
  have hbb := plane_b hbo
  have HL := Lib.hid ((sampleB_iff _ _).1 ((bothB_iff _ _ _ _).1 hbo).1).2.1
  have HMB := Lib.hid hmb
  have HBo := Lib.hid hbo
  have HV := Lib.hid (show bound rows zs ws b = farTo rows rows.length * (4 * dot ws ws + (2 * b - 1) * (2 * b - 1)) / (leastTo rows zs ws b rows.length * leastTo rows zs ws b rows.length) from rfl)
  clear hm hbo hmb hft w3'
  have g1 : decide (leastTo rows zs ws b rows.length ≤ 0) = false := by simp; omega
  have Hhr := Lib.hid hr
  have Hhz := Lib.hid hz
  have Hhq := Lib.hid hq
  clear hr hz hq
  go_enter Try.func69, Try.ntmps69
  go_wp2_with fail
  have x0_0 : (w.alloc (.cells #[.slice a rows.length c, .slice a' zs.length c'] 27)).cell? ⟨w.heap.size, 0, none⟩ = some (.slice a rows.length c) := cell_new _ _ _ (by simp) rfl
  have x0_1 : (w.alloc (.cells #[.slice a rows.length c, .slice a' zs.length c'] 27)).cell? ⟨w.heap.size, 1, none⟩ = some (.slice a' zs.length c') := cell_new _ _ _ (by simp) rfl
  have HB0 := Lib.hid (below_alloc w (.cells #[.slice a rows.length c, .slice a' zs.length c'] 27))
  replace x0_0 := cell_old (.cells #[.slice p ws.length q, .int .i64 b] 31) x0_0
  replace x0_1 := cell_old (.cells #[.slice p ws.length q, .int .i64 b] 31) x0_1
  have x1_0 : ((w.alloc (.cells #[.slice a rows.length c, .slice a' zs.length c'] 27)).alloc (.cells #[.slice p ws.length q, .int .i64 b] 31)).cell? ⟨w.heap.size + 1, 0, none⟩ = some (.slice p ws.length q) := cell_new _ _ _ (by simp) rfl
  have x1_1 : ((w.alloc (.cells #[.slice a rows.length c, .slice a' zs.length c'] 27)).alloc (.cells #[.slice p ws.length q, .int .i64 b] 31)).cell? ⟨w.heap.size + 1, 1, none⟩ = some (.int .i64 b) := cell_new _ _ _ (by simp) rfl
  replace HB0 := Lib.hid (HB0.out.alloc (by simp) (.cells #[.slice p ws.length q, .int .i64 b] 31))
  have s0 : w.heap.size + 2 ≤ ((w.alloc (.cells #[.slice a rows.length c, .slice a' zs.length c'] 27)).alloc (.cells #[.slice p ws.length q, .int .i64 b] 31)).heap.size := by simp
  generalize hw : ((w.alloc (.cells #[.slice a rows.length c, .slice a' zs.length c'] 27)).alloc (.cells #[.slice p ws.length q, .int .i64 b] 31)) = w0 at *
  clear hw
  have n0_0 : w.heap.size < w0.heap.size := by omega
  have n0_1 : w.heap.size + 1 < w0.heap.size := by omega
  refine (margin.impl_yes a rows c a' zs c' p ws q b _ (Hhr.out.below HB0.out) (Hhz.out.below HB0.out) (Hhq.out.below HB0.out) hn hk HMM.out hw HMB).mono ?_
  rintro e w1 ⟨rfl, hb⟩
  have s1 : w0.heap.size ≤ w1.heap.size := hb.size
  have n1_0 : w.heap.size < w1.heap.size := by omega
  have n1_1 : w.heap.size + 1 < w1.heap.size := by omega
  replace x0_0 := cell_below hb x0_0 (by omega)
  replace x0_1 := cell_below hb x0_1 (by omega)
  replace x1_0 := cell_below hb x1_0 (by omega)
  replace x1_1 := cell_below hb x1_1 (by omega)
  have HB1 := Lib.hid (HB0.out.trans (hb.mono (by omega)))
  clear hb
  go_wp2_with fail
  have HX := Lib.hid (show w1.cell? ⟨w.heap.size, 0, none⟩ = some (.slice a rows.length c) ∧ w1.cell? ⟨w.heap.size, 1, none⟩ = some (.slice a' zs.length c') ∧ w1.cell? ⟨w.heap.size + 1, 0, none⟩ = some (.slice p ws.length q) ∧ w1.cell? ⟨w.heap.size + 1, 1, none⟩ = some (.int .i64 b) from ⟨x0_0, x0_1, x1_0, x1_1⟩)
  go_loopw [8, 27] (fun v i wr => ∃ k : Nat, k ≤ rows.length ∧ i = .int .i64 k ∧ v = .int .i64 (farTo rows k) ∧ Below w1.heap.size w1 wr) (fun _ i _ => rows.length - (intOf i).toNat)
  case atStart => exact ⟨0, Nat.zero_le _, rfl, rfl, Below.refl _ _⟩
  case round =>
    obtain ⟨k, hk', rfl, rfl, hbel⟩ := hrel
    have hsz := hbel.size
    have HBl := Lib.hid hbel
    replace x0_0 := cell_below hbel HX.out.1 (by omega)
    replace x0_1 := cell_below hbel HX.out.2.1 (by omega)
    replace x1_0 := cell_below hbel HX.out.2.2.1 (by omega)
    replace x1_1 := cell_below hbel HX.out.2.2.2 (by omega)
    by_cases hlt : k < rows.length
    · obtain ⟨bl, off, rp, rq, hab, hbl, hc, hpq, hrow⟩ := (Hhr.out.below HB1.out).at hlt
      subst hab
      replace hc := cell_below hbel hc (by omega)
      obtain ⟨q1, q2, q3, q4⟩ := HSQ.out k hlt
      obtain ⟨f1, f2⟩ := HFB.out k hk'
      have HC := Lib.hid (impl_dot rp _ rq rp _ rq wr (hrow.below HBl.out) (hrow.below HBl.out) (by omega) (Nat.le_refl _) (by omega) q3)
      have i1 : (0 : Int) ≤ (k : Int) := by omega
      have i2 : (k : Int) < (rows.length : Int) := by omega
      have HE := Lib.hid (show farTo rows (k + 1) = max (farTo rows k) (1 + dot (rows.getD k []) (rows.getD k [])) from rfl)
      clear hrow hpq hbel q3
      generalize rows.getD k [] = r at *
      generalize dot r r = d at *
      generalize farTo rows k = l at *
      go_wp2_with fail
      refine HC.out.mono ?_
      rintro e w' ⟨rfl, m, rfl⟩
      go_wp2_with fail
      go_roundw
      case rel => exact ⟨k + 1, by omega, by go_num, by rw [HE.out], ints.below_drewN HBl.out _⟩
      case measure => simp [intOf]; omega
    · obtain rfl : k = rows.length := by omega
      have HC := Lib.hid (impl_dot p ws q p ws q wr (Hhq.out.below (HB1.out.trans (HBl.out.mono (by omega)))) (Hhq.out.below (HB1.out.trans (HBl.out.mono (by omega)))) hw (Nat.le_refl _) hw HWS.out)
      clear hbel
      generalize farTo rows rows.length = far at *
      generalize leastTo rows zs ws b rows.length = mm at *
      generalize dot ws ws = d at *
      obtain ⟨b1, b2⟩ := hbb
      obtain ⟨s1', s2'⟩ := mul_bd (A := 199) (B := 199) (x := 2 * b - 1) (y := 2 * b - 1) (by omega) (by omega) (by omega) (by omega)
      have s0' : 0 ≤ (2 * b - 1) * (2 * b - 1) := by
        rcases Int.le_total 0 (2 * b - 1) with h | h
        · exact Int.mul_nonneg h h
        · exact Int.mul_nonneg_of_nonpos_of_nonpos h h
      obtain ⟨sq, hsq⟩ : ∃ sq, sq = (2 * b - 1) * (2 * b - 1) := ⟨_, rfl⟩
      have e1 : IntKind.i64.wrap (2 * b) = 2 * b := IntWalk.i64_in _ (by omega)
      have e2 : IntKind.i64.wrap (2 * b - 1) = 2 * b - 1 := IntWalk.i64_in _ (by omega)
      have e3 : IntKind.i64.wrap ((2 * b - 1) * (2 * b - 1)) = sq := by rw [hsq]; exact IntWalk.i64_in _ (by omega)
      rw [← hsq] at s0' s1' s2' HV
      have e4 : IntKind.i64.wrap (4 * d) = 4 * d := IntWalk.i64_in _ (by omega)
      have e5 : IntKind.i64.wrap (4 * d + sq) = 4 * d + sq := IntWalk.i64_in _ (by omega)
      obtain ⟨u1, u2⟩ := mul_bd (A := 325) (B := 200000) (x := far) (y := 4 * d + sq) (by omega) (by omega) (by omega) (by omega)
      have u0 : 0 ≤ far * (4 * d + sq) := Int.mul_nonneg (by omega) (by omega)
      obtain ⟨v1, v2⟩ := mul_bd (A := 7327) (B := 7327) (x := mm) (y := mm) (by omega) (by omega) (by omega) (by omega)
      have v0 : 0 < mm * mm := Int.mul_pos hpos hpos
      obtain ⟨up, hup⟩ : ∃ up, up = far * (4 * d + sq) := ⟨_, rfl⟩
      obtain ⟨lo, hlo⟩ : ∃ lo, lo = mm * mm := ⟨_, rfl⟩
      have e6 : IntKind.i64.wrap (far * (4 * d + sq)) = up := by rw [hup]; exact IntWalk.i64_in _ (by omega)
      have e7 : IntKind.i64.wrap (mm * mm) = lo := by rw [hlo]; exact IntWalk.i64_in _ (by omega)
      rw [← hup, ← hlo] at HV
      rw [← hup] at u0 u1 u2
      rw [← hlo] at v0 v1 v2
      have z0 : (lo == 0) = false := by rw [beq_eq_false_iff_ne]; omega
      clear hsq hup hlo
      go_wp2_with fail
      refine HC.out.mono ?_
      rintro e w' ⟨rfl, m, rfl⟩
      go_wp2_with fail
      go_ret2
      exact ⟨congrArg (fun x => Ending.returned (.tuple #[.int .i64 x, .bool true])) HV.out.symm, HB1.out.trans ((ints.below_drewN HBl.out _).mono (by omega))⟩
end Go.Proofs.Ytfooajnjkkpkiaa.misbound
