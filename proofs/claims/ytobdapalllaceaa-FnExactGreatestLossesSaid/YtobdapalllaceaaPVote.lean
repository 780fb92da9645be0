/- Votes as plain data: plain definitions and lemmas, no condition. -/
import Derived.Test.YtobdapalllaceaaRange
namespace Go.Proofs.Ytobdapalllaceaa.pv
open pp range
set_option linter.unusedVariables false

/-- The sum of the first k numbers. -/
def sumTo (zs : List Int) : Nat → Int
  | 0 => 0
  | k + 1 => sumTo zs k + zs.getD k 0
def sumZ (zs : List Int) : Int := sumTo zs zs.length
theorem sumTo_succ (zs : List Int) (k : Nat) : sumTo zs (k + 1) = sumTo zs k + zs.getD k 0 := rfl
theorem sumTo_zero (zs : List Int) : sumTo zs 0 = 0 := rfl
theorem sumTo_bd {zs : List Int} {m : Nat} (k : Nat) (h : ∀ j, j < k → 0 ≤ zs.getD j 0 ∧ zs.getD j 0 ≤ m) : 0 ≤ sumTo zs k ∧ sumTo zs k ≤ (m * k : Nat) := by
  induction k with
  | zero => simp [sumTo]
  | succ k ih =>
    have h1 := ih (fun j hj => h j (by omega))
    have h2 := h k (by omega)
    rw [sumTo_succ, Nat.mul_succ]
    omega
/-- A vote. -/
def voteB (ws : List Int) (q : Int) : Bool := (decide (1 ≤ ws.length) && decide (ws.length ≤ 8)) && numsR 0 20 ws && (decide (1 ≤ q) && decide (q ≤ sumZ ws))
theorem vote_iff (ws : List Int) (q : Int) : voteB ws q = true ↔ (1 ≤ ws.length ∧ ws.length ≤ 8) ∧ numsR 0 20 ws = true ∧ 1 ≤ q ∧ q ≤ sumZ ws := by
  simp [voteB, and_assoc]
theorem vote_at {ws : List Int} {q : Int} (h : voteB ws q = true) (k : Nat) (hk : k < ws.length) : 0 ≤ ws.getD k 0 ∧ ws.getD k 0 ≤ 20 := numsR_at ((vote_iff _ _).1 h).2.1 k hk
theorem vote_sum {ws : List Int} {q : Int} (h : voteB ws q = true) : 0 ≤ sumZ ws ∧ sumZ ws ≤ 160 := by
  have h1 := ((vote_iff _ _).1 h).1
  have h2 := sumTo_bd (m := 20) ws.length (fun j hj => by have := vote_at h j hj; omega)
  unfold sumZ
  omega
theorem vote_no_len {ws : List Int} {q : Int} (h : ¬ (1 ≤ ws.length ∧ ws.length ≤ 8)) : voteB ws q = false := by
  cases hx : voteB ws q
  · rfl
  · exact absurd ((vote_iff _ _).1 hx).1 h
theorem vote_no_nums {ws : List Int} {q : Int} (h : numsR 0 20 ws = false) : voteB ws q = false := by
  cases hx : voteB ws q
  · rfl
  · rw [((vote_iff _ _).1 hx).2.1] at h; cases h
theorem vote_eq {ws : List Int} {q : Int} (h1 : 1 ≤ ws.length ∧ ws.length ≤ 8) (h2 : numsR 0 20 ws = true) : voteB ws q = (decide (1 ≤ q) && decide (q ≤ sumZ ws)) := by
  unfold voteB
  rw [decide_eq_true h1.1, decide_eq_true h1.2, h2]
  rfl
end Go.Proofs.Ytobdapalllaceaa.pv
