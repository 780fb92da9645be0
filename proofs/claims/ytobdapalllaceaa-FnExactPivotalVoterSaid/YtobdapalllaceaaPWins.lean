/- Sets of voters and their codes: plain definitions and lemmas, no condition. -/
import Derived.Test.YtobdapalllaceaaWins
import Derived.Test.YtobdapalllaceaaRising
namespace Go.Proofs.Ytobdapalllaceaa.pw
open pp pv rising bitw wins
set_option linter.unusedVariables false

/-- The code of the first k voters of a set. -/
def codeTo (zs : List Int) : Nat → Nat
  | 0 => 0
  | k + 1 => codeTo zs k + 2 ^ (zs.getD k 0).toNat
/-- The weight of the first k voters of a set. -/
def sumP (ws zs : List Int) : Nat → Int
  | 0 => 0
  | k + 1 => sumP ws zs k + ws.getD (zs.getD k 0).toNat 0
theorem rise_fit {n : Int} {zs : List Int} (h : risesB n zs = true) (k : Nat) (hk : k < zs.length) : 0 ≤ zs.getD k 0 ∧ zs.getD k 0 < n := by
  have := rises_at h k hk
  simp only [riseAt, Bool.and_eq_true, decide_eq_true_eq] at this
  omega
theorem rise_lt {n : Int} {zs : List Int} (h : risesB n zs = true) (k : Nat) (hk : k + 1 < zs.length) : zs.getD k 0 < zs.getD (k + 1) 0 := by
  have := rises_at h (k + 1) hk
  simp only [riseAt, Bool.and_eq_true, Bool.or_eq_true, decide_eq_true_eq, show k + 1 - 1 = k by omega] at this
  omega
def topB (zs : List Int) : Nat → Nat
  | 0 => 0
  | k + 1 => (zs.getD k 0).toNat + 1
theorem top_le {n : Int} {zs : List Int} (h : risesB n zs = true) (k : Nat) (hk : k < zs.length) : topB zs k ≤ (zs.getD k 0).toNat := by
  cases k with
  | zero => exact Nat.zero_le _
  | succ k =>
    have h1 := rise_lt h k hk
    have h2 := rise_fit h k (by omega)
    show (zs.getD k 0).toNat + 1 ≤ _
    omega
theorem code_top {n : Int} {zs : List Int} (h : risesB n zs = true) (k : Nat) (hk : k ≤ zs.length) : codeTo zs k < 2 ^ topB zs k := by
  induction k with
  | zero => exact Nat.zero_lt_one
  | succ k ih =>
    have h1 := ih (by omega)
    have h2 := Nat.pow_le_pow_right (n := 2) (by omega) (top_le h k (by omega))
    show codeTo zs k + 2 ^ (zs.getD k 0).toNat < 2 ^ ((zs.getD k 0).toNat + 1)
    rw [Nat.pow_succ]
    omega
theorem code_lt {n : Nat} {zs : List Int} (h : risesB (n : Int) zs = true) (k : Nat) (hk : k ≤ zs.length) : codeTo zs k < 2 ^ n := by
  refine Nat.lt_of_lt_of_le (code_top h k hk) (Nat.pow_le_pow_right (by omega) ?_)
  cases k with
  | zero => exact Nat.zero_le _
  | succ k =>
    have := rise_fit h k (by omega)
    show (zs.getD k 0).toNat + 1 ≤ n
    omega
theorem dig_add : ∀ z : Fin 8, ∀ c : Fin 128, c.val < 2 ^ z.val → ∀ j : Fin 8, (c.val + 2 ^ z.val) / 2 ^ j.val % 2 = c.val / 2 ^ j.val % 2 + (if j.val = z.val then 1 else 0) := by decide +kernel
theorem dot_add {ws : List Int} (h8 : ws.length ≤ 8) {c z : Nat} (hz : z < ws.length) (hc : c < 2 ^ z) : dot ws (bitsTo (c + 2 ^ z) ws.length) = dot ws (bitsTo c ws.length) + ws.getD z 0 := by
  have h7 := Nat.pow_le_pow_right (n := 2) (by omega) (show z ≤ 7 by omega)
  have key : ∀ k, k ≤ ws.length → dotTo ws (bitsTo (c + 2 ^ z) ws.length) k = dotTo ws (bitsTo c ws.length) k + (if z < k then ws.getD z 0 else 0) := by
    intro k
    induction k with
    | zero => intro _; simp [dotTo_zero]
    | succ k ih =>
      intro hk
      have hd := dig_add ⟨z, by omega⟩ ⟨c, by omega⟩ hc ⟨k, by omega⟩
      simp only at hd
      rw [dotTo_succ, dotTo_succ, ih (by omega), bits_getD _ _ _ (by omega), bits_getD _ _ _ (by omega), hd]
      by_cases e : k = z
      · subst e
        rw [if_neg (Nat.lt_irrefl _), if_pos rfl, if_pos (by omega)]
        generalize c / 2 ^ k % 2 = d
        rw [Int.natCast_add, Int.mul_add]
        generalize ws.getD k 0 * ((d : Nat) : Int) = e
        generalize dotTo ws (bitsTo c ws.length) k = f
        have h1 : ws.getD k 0 * ((1 : Nat) : Int) = ws.getD k 0 := Int.mul_one _
        rw [h1]
        omega
      · rw [if_neg e]
        by_cases hlt : z < k
        · rw [if_pos hlt, if_pos (by omega)]
          simp only [Nat.add_zero]
          omega
        · rw [if_neg hlt, if_neg (by omega)]
          simp only [Nat.add_zero]
          omega
  have := key ws.length (Nat.le_refl _)
  rw [if_pos hz] at this
  exact this
theorem dot_zero (ws : List Int) : dot ws (bitsTo 0 ws.length) = 0 := by
  have key : ∀ k, k ≤ ws.length → dotTo ws (bitsTo 0 ws.length) k = 0 := by
    intro k
    induction k with
    | zero => intro _; rfl
    | succ k ih =>
      intro hk
      rw [dotTo_succ, ih (by omega), bits_getD _ _ _ (by omega)]
      simp
  exact key ws.length (Nat.le_refl _)
theorem code_dot {ws zs : List Int} (h8 : ws.length ≤ 8) (h : risesB (ws.length : Int) zs = true) (k : Nat) (hk : k ≤ zs.length) : dot ws (bitsTo (codeTo zs k) ws.length) = sumP ws zs k := by
  induction k with
  | zero => exact dot_zero ws
  | succ k ih =>
    have h1 := rise_fit h k (by omega)
    have h2 := Nat.lt_of_lt_of_le (code_top h k (by omega)) (Nat.pow_le_pow_right (n := 2) (by omega) (top_le h k (by omega)))
    show dot ws (bitsTo (codeTo zs k + 2 ^ (zs.getD k 0).toNat) ws.length) = _
    rw [dot_add h8 (by omega) h2, ih (by omega)]
    rfl
theorem sumP_bd {ws zs : List Int} (hw : ∀ j, j < ws.length → 0 ≤ ws.getD j 0 ∧ ws.getD j 0 ≤ 20) (h : risesB (ws.length : Int) zs = true) (k : Nat) (hk : k ≤ zs.length) : 0 ≤ sumP ws zs k ∧ sumP ws zs k ≤ (20 * k : Nat) := by
  induction k with
  | zero => simp [sumP]
  | succ k ih =>
    have h1 := ih (by omega)
    have h2 := rise_fit h k (by omega)
    have h3 := hw (zs.getD k 0).toNat (by omega)
    show 0 ≤ sumP ws zs k + _ ∧ sumP ws zs k + _ ≤ _
    rw [Nat.mul_succ]
    omega
end Go.Proofs.Ytobdapalllaceaa.pw
