/- The walks of the model's and the program's bound on mistakes. -/
import Derived.Test.YtocbklmkphgkeaaMargin
import Derived.Test.YtocbklmkphgkeaaMisOf
import Derived.Lib.MinMax
namespace Go.Proofs.Ytocbklmkphgkeaa.misbound
open Go.RowKit own pp nums samplesv samplest dots both sides margin mistakes
set_option linter.unusedVariables false
set_option linter.unusedSimpArgs false

/-- The greatest sum of 1 and the squares of the numbers of one of the first k points. -/
def farTo (rows : List (List Int)) : Nat → Int
  | 0 => 0
  | k + 1 => max (farTo rows k) (1 + dot (rows.getD k []) (rows.getD k []))
def size (ws : List Int) (b : Int) : Int := 4 * dot ws ws + (2 * b - 1) * (2 * b - 1)
/-- A sample with points and a plane that fits it. -/
def mbB (rows : List (List Int)) (zs ws : List Int) (b : Int) : Bool := mB rows zs ws b && decide (misTo rows zs ws b rows.length = [])
theorem mbB_iff (rows : List (List Int)) (zs ws : List Int) (b : Int) : mbB rows zs ws b = true ↔ mB rows zs ws b = true ∧ misTo rows zs ws b rows.length = [] := by simp [mbB]
def bound (rows : List (List Int)) (zs ws : List Int) (b : Int) : Int := farTo rows rows.length * size ws b / (leastTo rows zs ws b rows.length * leastTo rows zs ws b rows.length)

/-- A margin is greater than 0 exactly at a point that is no mistake. -/
theorem mg_pos {ws xs : List Int} {b y : Int} (hy : y = 1 ∨ y = -1) : 0 < mg ws b xs y ↔ side ws b xs = y := by
  unfold mg side
  rcases hy with rfl | rfl
  · split <;> constructor <;> intro h <;> first | rfl | omega | (simp at h)
  · split <;> constructor <;> intro h <;> first | rfl | omega | (simp at h)
theorem least_pos (rows : List (List Int)) (zs ws : List Int) (b : Int) (k : Nat) : 0 < leastTo rows zs ws b (k + 1) ↔ ∀ i, i < k + 1 → 0 < mgAt rows zs ws b i := by
  induction k with
  | zero =>
    show 0 < (if 0 = 0 ∨ _ then mgAt rows zs ws b 0 else _) ↔ _
    rw [if_pos (.inl rfl)]
    exact ⟨fun h i hi => by rw [show i = 0 by omega]; exact h, fun h => h 0 (by omega)⟩
  | succ k ih =>
    have e : leastTo rows zs ws b (k + 1 + 1) = if k + 1 = 0 ∨ mgAt rows zs ws b (k + 1) < leastTo rows zs ws b (k + 1) then mgAt rows zs ws b (k + 1) else leastTo rows zs ws b (k + 1) := rfl
    rw [e]
    constructor
    · intro h i hi
      by_cases hik : i = k + 1
      · rw [hik]; split at h <;> omega
      · refine (ih.1 ?_) i (by omega)
        split at h <;> omega
    · intro h
      have h1 := ih.2 fun i hi => h i (by omega)
      have h2 := h (k + 1) (by omega)
      split <;> omega
theorem mis_nil (rows : List (List Int)) (zs ws : List Int) (b : Int) (n : Nat) : misTo rows zs ws b n = [] ↔ ∀ i, i < n → side ws b (rows.getD i []) = zs.getD i 0 := by
  unfold misTo
  rw [List.map_eq_nil_iff, List.filter_eq_nil_iff]
  constructor
  · intro h i hi
    have := h i (List.mem_range.2 hi)
    simpa [isM] using this
  · intro h i hi
    have := h i (List.mem_range.1 hi)
    simp [isM] at this ⊢
    exact this
theorem fits_pos {rows : List (List Int)} {zs ws : List Int} {b : Int} (h : mB rows zs ws b = true) : misTo rows zs ws b rows.length = [] ↔ 0 < leastTo rows zs ws b rows.length := by
  obtain ⟨hbo, h0⟩ := (mB_iff _ _ _ _).1 h
  have hD := bd_of hbo
  rw [mis_nil]
  obtain ⟨k, hk⟩ : ∃ k, rows.length = k + 1 := ⟨rows.length - 1, by omega⟩
  rw [hk, least_pos]
  constructor
  · intro h i hi
    exact (mg_pos (hD i (by omega)).2).2 (h i hi)
  · intro h i hi
    exact (mg_pos (hD i (by omega)).2).1 (h i hi)
theorem dot_le {A : Int} {us vs : List Int} (hA : numsB A us = true) (hB : numsB A vs = true) (hl : us.length ≤ 4) (he : us.length ≤ vs.length) : -(A * A * 4) ≤ dot us vs ∧ dot us vs ≤ A * A * 4 ∨ us.length = 0 := by
  by_cases h0 : us.length = 0
  · exact .inr h0
  refine .inl ?_
  have hA0 := numsB_at hA 0 (by omega)
  have hAA : 0 ≤ A * A := Int.mul_nonneg (by omega) (by omega)
  have hb : ∀ k, k ≤ us.length → -(A * A * (k : Int)) ≤ dotTo us vs k ∧ dotTo us vs k ≤ A * A * (k : Int) := by
    intro k
    induction k with
    | zero => intro _; simp [dotTo_zero]
    | succ k ih =>
      intro hk
      have h1 := ih (by omega)
      have h4 := mul_bd (numsB_at hA k (by omega)).1 (numsB_at hA k (by omega)).2 (numsB_at hB k (by omega)).1 (numsB_at hB k (by omega)).2
      have e : A * A * ((k + 1 : Nat) : Int) = A * A * (k : Int) + A * A := by push_cast; rw [Int.mul_add, Int.mul_one]
      rw [dotTo_succ, e]
      omega
  have h1 := hb us.length (Nat.le_refl _)
  have h2 : A * A * (us.length : Int) ≤ A * A * 4 := Int.mul_le_mul_of_nonneg_left (by omega) hAA
  unfold dot
  omega
theorem sq_nonneg (us : List Int) (k : Nat) : 0 ≤ dotTo us us k := by
  induction k with
  | zero => simp [dotTo_zero]
  | succ k ih =>
    rw [dotTo_succ]
    have : 0 ≤ us.getD k 0 * us.getD k 0 := by
      rcases Int.le_total 0 (us.getD k 0) with h | h
      · exact Int.mul_nonneg h h
      · exact Int.mul_nonneg_of_nonpos_of_nonpos h h
    omega
/-- The bounds that the reckoning keeps. -/
theorem row_sq {rows : List (List Int)} {zs ws : List Int} {b : Int} (h : bothB rows zs ws b = true) (k : Nat) (hk : k < rows.length) : 0 ≤ dot (rows.getD k []) (rows.getD k []) ∧ dot (rows.getD k []) (rows.getD k []) ≤ 324 ∧ Small (rows.getD k []) (rows.getD k []) ∧ (rows.getD k []).length ≤ 4 := by
  obtain ⟨h1, h2, h3⟩ := (bothB_iff _ _ _ _).1 h
  obtain ⟨s1, s2, s3, s4⟩ := (sampleB_iff _ _).1 h1
  have hr := all_at _ [] rows s4 k hk
  simp only [Bool.and_eq_true, decide_eq_true_eq] at hr
  obtain ⟨p1, p2, p3⟩ := (pointB_iff _).1 hr.1
  refine ⟨sq_nonneg _ _, ?_, small_of p3 p3 (by decide) (Nat.le_refl _), p2⟩
  rcases dot_le p3 p3 p2 (Nat.le_refl _) with h | h <;> omega
theorem far_bd {rows : List (List Int)} {zs ws : List Int} {b : Int} (h : bothB rows zs ws b = true) (k : Nat) (hk : k ≤ rows.length) : 0 ≤ farTo rows k ∧ farTo rows k ≤ 325 := by
  induction k with
  | zero => simp [farTo]
  | succ k ih =>
    have h1 := ih (by omega)
    have h2 := row_sq h k (by omega)
    show 0 ≤ max _ _ ∧ max _ _ ≤ 325
    omega
theorem ws_sq {rows : List (List Int)} {zs ws : List Int} {b : Int} (h : bothB rows zs ws b = true) : 0 ≤ dot ws ws ∧ dot ws ws ≤ 39204 ∧ Small ws ws := by
  obtain ⟨h1, h2, h3⟩ := (bothB_iff _ _ _ _).1 h
  obtain ⟨p1, p2, p3, p4⟩ := (planeB_iff _ _).1 h2
  refine ⟨sq_nonneg _ _, ?_, small_of p3 p3 (by decide) (Nat.le_refl _)⟩
  rcases dot_le p3 p3 p2 (Nat.le_refl _) with h | h <;> omega
theorem least_bd {rows : List (List Int)} {zs ws : List Int} {b : Int} (h : bothB rows zs ws b = true) (k : Nat) (hk : k ≤ rows.length) : -7327 ≤ leastTo rows zs ws b k ∧ leastTo rows zs ws b k ≤ 7327 := by
  have hb := plane_b h
  induction k with
  | zero => simp [leastTo]
  | succ k ih =>
    have h1 := ih (by omega)
    obtain ⟨⟨d1, d2⟩, hy⟩ := bd_of h k (by omega)
    have hm : -7327 ≤ mgAt rows zs ws b k ∧ mgAt rows zs ws b k ≤ 7327 := by
      unfold mgAt mg
      rcases hy with e | e <;> rw [e] <;> omega
    have e : leastTo rows zs ws b (k + 1) = if k = 0 ∨ mgAt rows zs ws b k < leastTo rows zs ws b k then mgAt rows zs ws b k else leastTo rows zs ws b k := rfl
    rw [e]
    split <;> omega

end Go.Proofs.Ytocbklmkphgkeaa.misbound
