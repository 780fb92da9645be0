/- The plane of two means: plain lemmas. -/
import Derived.Test.YtkbcofgigfnfaaaSums
import Derived.Test.YtkbcofgigfnfaaaWidth
import Derived.Test.YtkbcofgigfnfaaaFitsP
import Derived.Test.YtkbcofgigfnfaaaMk
namespace Go.Proofs.Ytkbcofgigfnfaaa.meanp
open Go.RowKit own pp nums fill range samplest samplesv sums width fitsp has
set_option linter.unusedVariables false
set_option linter.unusedSimpArgs false

def ones (n : Nat) : List Int := List.replicate n 1
theorem ones_length (n : Nat) : (ones n).length = n := by simp [ones]
theorem ones_getD (n i : Nat) (h : i < n) : (ones n).getD i 0 = 1 := by simp [ones, List.getD_eq_getElem?_getD, h]
/-- How many points have a label, and their sum. -/
def sA (rows : List (List Int)) (zs : List Int) (y : Int) : List Int := sumsTo rows zs (ones rows.length) y (rows.getD 0 []).length rows.length
theorem sA_length (rows : List (List Int)) (zs : List Int) (y : Int) : (sA rows zs y).length = (rows.getD 0 []).length + 1 := sums_length _ _ _ _ _ _
theorem mix_sf {rows : List (List Int)} {zs : List Int} (h : mixB rows zs = true) : SF rows zs (ones rows.length) (rows.getD 0 []).length := by
  simp only [mixB, Bool.and_eq_true] at h
  obtain ⟨⟨hs, h1⟩, _⟩ := h
  obtain ⟨k, hk, _⟩ := hasB_ex h1
  have hl := ((sampleB_iff _ _).1 hs).2.1
  refine SF.of hs (by omega) (ones_length _) (all_true _ 0 _ fun j hj => ?_)
  rw [ones_length] at hj
  rw [ones_getD _ _ hj]
  decide
theorem mix_dim {rows : List (List Int)} {zs : List Int} (h : mixB rows zs = true) : 1 ≤ rows.length ∧ rows.length ≤ 16 ∧ 1 ≤ (rows.getD 0 []).length ∧ (rows.getD 0 []).length ≤ 4 := by
  have h1 := mix_sf h
  exact ⟨h1.pos, h1.n16, h1.d4.1, h1.d4.2⟩
theorem sum_bd1 {rows : List (List Int)} {zs : List Int} {d : Nat} (h : SF rows zs (ones rows.length) d) (y : Int) (j : Nat) (hj : j < d + 1) (k : Nat) (hk : k ≤ rows.length) : -(9 * (k : Int)) ≤ sumAt rows zs (ones rows.length) y k j ∧ sumAt rows zs (ones rows.length) y k j ≤ 9 * (k : Int) := by
  induction k with
  | zero => simp [sumAt]
  | succ k ih =>
    have h1 := ih (by omega)
    have h2 := h.co k j (by omega) hj
    unfold sumAt
    rw [ones_getD _ _ (by omega), Int.one_mul]
    split <;> omega
theorem sum_bd0 {rows : List (List Int)} (zs : List Int) (y : Int) (k : Nat) (hk : k ≤ rows.length) : 0 ≤ sumAt rows zs (ones rows.length) y k 0 ∧ sumAt rows zs (ones rows.length) y k 0 ≤ (k : Int) := by
  induction k with
  | zero => simp [sumAt]
  | succ k ih =>
    have h1 := ih (by omega)
    unfold sumAt
    rw [ones_getD _ _ (by omega), Int.one_mul, co_zero]
    split <;> omega
theorem sA_at {rows : List (List Int)} {zs : List Int} (h : mixB rows zs = true) (y : Int) (j : Nat) (hj : j < (rows.getD 0 []).length + 1) : -144 ≤ (sA rows zs y).getD j 0 ∧ (sA rows zs y).getD j 0 ≤ 144 := by
  have h1 := sum_bd1 (mix_sf h) y j hj rows.length (Nat.le_refl _)
  have h2 := mix_dim h
  unfold sA
  rw [sums_getD _ _ _ _ _ _ _ hj]
  omega
theorem sA_zero {rows : List (List Int)} {zs : List Int} (h : mixB rows zs = true) (y : Int) : 0 ≤ (sA rows zs y).getD 0 0 ∧ (sA rows zs y).getD 0 0 ≤ 16 := by
  have h1 := sum_bd0 zs y rows.length (Nat.le_refl _)
  have h2 := mix_dim h
  unfold sA
  rw [sums_getD _ _ _ _ _ _ _ (by omega)]
  omega
/-- What both means make. -/
structure MB (d : Nat) (A B : List Int) : Prop where
  d1 : 1 ≤ d
  d4 : d ≤ 4
  la : A.length = d + 1
  lb : B.length = d + 1
  a0 : 0 ≤ A.getD 0 0 ∧ A.getD 0 0 ≤ 16
  b0 : 0 ≤ B.getD 0 0 ∧ B.getD 0 0 ≤ 16
  aa : ∀ j, j < d + 1 → -144 ≤ A.getD j 0 ∧ A.getD j 0 ≤ 144
  bb : ∀ j, j < d + 1 → -144 ≤ B.getD j 0 ∧ B.getD j 0 ≤ 144
theorem mb_of {rows : List (List Int)} {zs : List Int} (h : mixB rows zs = true) : MB (rows.getD 0 []).length (sA rows zs 1) (sA rows zs (-1)) :=
  ⟨(mix_dim h).2.2.1, (mix_dim h).2.2.2, sA_length _ _ _, sA_length _ _ _, sA_zero h _, sA_zero h _, sA_at h _, sA_at h _⟩
def mwAt (A B : List Int) (j : Nat) : Int := 2 * A.getD 0 0 * B.getD 0 0 * (B.getD 0 0 * A.getD (j + 1) 0 - A.getD 0 0 * B.getD (j + 1) 0)
def mW (d : Nat) (A B : List Int) : List Int := mk.mk (mwAt A B) d
def mD (A B : List Int) : Int := B.getD 0 0 * B.getD 0 0 * dot (A.drop 1) (A.drop 1) - A.getD 0 0 * A.getD 0 0 * dot (B.drop 1) (B.drop 1)
theorem drop_getD (L : List Int) (j : Nat) : (L.drop 1).getD j 0 = L.getD (j + 1) 0 := by
  simp [List.getD_eq_getElem?_getD, List.getElem?_drop, Nat.add_comm]
theorem drop_small {L : List Int} (h : ∀ j, j < L.length → -144 ≤ L.getD j 0 ∧ L.getD j 0 ≤ 144) : Small (L.drop 1) (L.drop 1) := by
  intro k hk
  rw [List.length_drop] at hk
  rw [drop_getD]
  have h1 := h (k + 1) (by omega)
  have := mul_bd h1.1 h1.2 h1.1 h1.2
  omega
theorem drop_dot {L : List Int} (h : ∀ j, j < L.length → -144 ≤ L.getD j 0 ∧ L.getD j 0 ≤ 144) (hl : L.length ≤ 5) : -82944 ≤ dot (L.drop 1) (L.drop 1) ∧ dot (L.drop 1) (L.drop 1) ≤ 82944 := by
  have h2 : ∀ k, k ≤ (L.drop 1).length → -(20736 * (k : Int)) ≤ dotTo (L.drop 1) (L.drop 1) k ∧ dotTo (L.drop 1) (L.drop 1) k ≤ 20736 * (k : Int) := by
    intro k
    induction k with
    | zero => intro _; simp [dotTo_zero]
    | succ k ih =>
      intro hk
      have h3 := ih (by omega)
      rw [List.length_drop] at hk
      have h1 := h (k + 1) (by omega)
      have := mul_bd h1.1 h1.2 h1.1 h1.2
      rw [dotTo_succ, drop_getD]
      omega
  have h3 := h2 (L.drop 1).length (Nat.le_refl _)
  unfold dot
  rw [List.length_drop] at h3 ⊢
  omega
structure MW (p q x y : Int) : Prop where
  e1 : IntKind.i64.wrap (2 * p) = 2 * p
  e2 : IntKind.i64.wrap (2 * p * q) = 2 * p * q
  e3 : IntKind.i64.wrap (q * x) = q * x
  e4 : IntKind.i64.wrap (p * y) = p * y
  e5 : IntKind.i64.wrap (q * x - p * y) = q * x - p * y
  e6 : IntKind.i64.wrap (2 * p * q * (q * x - p * y)) = 2 * p * q * (q * x - p * y)
theorem mw_of {p q x y : Int} (hp : 0 ≤ p ∧ p ≤ 16) (hq : 0 ≤ q ∧ q ≤ 16) (hx : -144 ≤ x ∧ x ≤ 144) (hy : -144 ≤ y ∧ y ≤ 144) : MW p q x y := by
  have b1 := mul_bd (A := 32) (B := 16) (x := 2 * p) (y := q) (by omega) (by omega) (by omega) (by omega)
  have b2 := mul_bd (A := 16) (B := 144) (x := q) (y := x) (by omega) (by omega) hx.1 hx.2
  have b3 := mul_bd (A := 16) (B := 144) (x := p) (y := y) (by omega) (by omega) hy.1 hy.2
  have b4 := mul_bd (A := 512) (B := 4608) (x := 2 * p * q) (y := q * x - p * y) (by omega) (by omega) (by omega) (by omega)
  exact ⟨IntWalk.i64_in _ (by omega), IntWalk.i64_in _ (by omega), IntWalk.i64_in _ (by omega), IntWalk.i64_in _ (by omega), IntWalk.i64_in _ (by omega), IntWalk.i64_in _ (by omega)⟩
structure MD (p q a b : Int) : Prop where
  e1 : IntKind.i64.wrap (q * q) = q * q
  e2 : IntKind.i64.wrap (q * q * a) = q * q * a
  e3 : IntKind.i64.wrap (p * p) = p * p
  e4 : IntKind.i64.wrap (p * p * b) = p * p * b
  e5 : IntKind.i64.wrap (q * q * a - p * p * b) = q * q * a - p * p * b
theorem md_of {p q a b : Int} (hp : 0 ≤ p ∧ p ≤ 16) (hq : 0 ≤ q ∧ q ≤ 16) (ha : -82944 ≤ a ∧ a ≤ 82944) (hb : -82944 ≤ b ∧ b ≤ 82944) : MD p q a b := by
  have b1 := mul_bd (A := 16) (B := 16) (x := q) (y := q) (by omega) (by omega) (by omega) (by omega)
  have b2 := mul_bd (A := 16) (B := 16) (x := p) (y := p) (by omega) (by omega) (by omega) (by omega)
  have b3 := mul_bd (A := 256) (B := 82944) (x := q * q) (y := a) (by omega) (by omega) ha.1 ha.2
  have b4 := mul_bd (A := 256) (B := 82944) (x := p * p) (y := b) (by omega) (by omega) hb.1 hb.2
  exact ⟨IntWalk.i64_in _ (by omega), IntWalk.i64_in _ (by omega), IntWalk.i64_in _ (by omega), IntWalk.i64_in _ (by omega), IntWalk.i64_in _ (by omega)⟩
end Go.Proofs.Ytkbcofgigfnfaaa.meanp
