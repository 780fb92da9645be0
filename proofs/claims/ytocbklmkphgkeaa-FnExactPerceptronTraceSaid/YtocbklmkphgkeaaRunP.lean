/- Runs of perceptrons: plain definitions and lemmas, no condition. -/
import Derived.Test.YtocbklmkphgkeaaStepP
import Derived.Test.YtocbklmkphgkeaaMargin
namespace Go.Proofs.Ytocbklmkphgkeaa.runp
open Go.RowKit own pp step
set_option linter.unusedVariables false

/-- Where a run stands: its plane, the mistakes of its rounds, the places of its turns, the planes before. -/
structure Sta where
  p : List Int × Int
  mi : List Int
  tr : List Int
  pl : List (List Int × Int)
def same (rows : List (List Int)) (zs : List Int) (s : Sta) (k : Nat) : Bool := decide (side s.p.1 s.p.2 (rows.getD k []) = zs.getD k 0)
def turned (rows : List (List Int)) (zs : List Int) (s : Sta) (k : Nat) : Sta := ⟨(added s.p.1 (rows.getD k []) (zs.getD k 0), s.p.2 - zs.getD k 0), s.mi, s.tr ++ [(k : Int)], s.pl ++ [s.p]⟩
def inn (rows : List (List Int)) (zs : List Int) (s : Sta) : Nat → Sta
  | 0 => s
  | k + 1 => if same rows zs (inn rows zs s k) k then inn rows zs s k else turned rows zs (inn rows zs s k) k
def cn (rows : List (List Int)) (zs : List Int) (s : Sta) : Nat → Nat
  | 0 => 0
  | k + 1 => if same rows zs (inn rows zs s k) k then cn rows zs s k else cn rows zs s k + 1
def okP (s : Sta) : Bool := planeB s.p.1 s.p.2
def okTo (rows : List (List Int)) (zs : List Int) (s : Sta) (k : Nat) : Bool := (List.range k).all fun j => okP (inn rows zs s (j + 1))
def rnd (rows : List (List Int)) (zs : List Int) (s : Sta) : Sta := { inn rows zs s rows.length with mi := s.mi ++ [(cn rows zs s rows.length : Int)] }
def okRun (rows : List (List Int)) (zs : List Int) : Nat → Sta → Bool
  | 0, _ => true
  | f + 1, s => okTo rows zs s rows.length && (if cn rows zs s rows.length = 0 then true else okRun rows zs f (rnd rows zs s))
def endRun (rows : List (List Int)) (zs : List Int) : Nat → Sta → Sta
  | 0, s => s
  | f + 1, s => if cn rows zs s rows.length = 0 then rnd rows zs s else endRun rows zs f (rnd rows zs s)
def init (d : Nat) : Sta := ⟨(List.replicate d 0, 0), [], [], []⟩
section
variable {rows : List (List Int)} {zs : List Int} {s : Sta} {k f : Nat}
theorem inn_same (h : same rows zs (inn rows zs s k) k = true) : inn rows zs s (k + 1) = inn rows zs s k ∧ cn rows zs s (k + 1) = cn rows zs s k := ⟨if_pos h, if_pos h⟩
theorem inn_turn (h : same rows zs (inn rows zs s k) k = false) : inn rows zs s (k + 1) = turned rows zs (inn rows zs s k) k ∧ cn rows zs s (k + 1) = cn rows zs s k + 1 := ⟨if_neg (by rw [h]; decide), if_neg (by rw [h]; decide)⟩
theorem inn_mi (rows : List (List Int)) (zs : List Int) (s : Sta) (k : Nat) : (inn rows zs s k).mi = s.mi := by
  induction k with
  | zero => rfl
  | succ k ih => unfold inn; split; exact ih; exact ih
theorem inn_len (rows : List (List Int)) (zs : List Int) (s : Sta) (k : Nat) : (inn rows zs s k).p.1.length = s.p.1.length := by
  induction k with
  | zero => rfl
  | succ k ih => unfold inn; split; exact ih; show (added _ _ _).length = _; rw [added_length]; exact ih
theorem cn_le (rows : List (List Int)) (zs : List Int) (s : Sta) (k : Nat) : cn rows zs s k ≤ k := by
  induction k with
  | zero => exact Nat.le_refl _
  | succ k ih => unfold cn; split <;> omega
theorem tr_len (rows : List (List Int)) (zs : List Int) (s : Sta) (k : Nat) : (inn rows zs s k).tr.length = s.tr.length + cn rows zs s k ∧ (inn rows zs s k).pl.length = s.pl.length + cn rows zs s k := by
  induction k with
  | zero => exact ⟨rfl, rfl⟩
  | succ k ih => unfold inn cn; split; exact ih; simp [turned, ih.1, ih.2]; omega
theorem okTo_at (h : okTo rows zs s f = true) (hk : k < f) : okP (inn rows zs s (k + 1)) = true := by
  unfold okTo at h
  rw [List.all_eq_true] at h
  exact h k (by simpa using hk)
theorem okTo_of (h : ∀ k, k < f → okP (inn rows zs s (k + 1)) = true) : okTo rows zs s f = true := by
  unfold okTo
  rw [List.all_eq_true]
  intro k hk
  exact h k (by simpa using hk)
theorem okTo_no (hk : k < f) (h : okP (inn rows zs s (k + 1)) = false) : okTo rows zs s f = false := by
  cases e : okTo rows zs s f
  · rfl
  · rw [okTo_at e hk] at h; cases h
theorem okRun_no (h : okTo rows zs s rows.length = false) : okRun rows zs (f + 1) s = false := by unfold okRun; rw [h]; rfl
theorem run_stop (h : okTo rows zs s rows.length = true) (h0 : cn rows zs s rows.length = 0) : okRun rows zs (f + 1) s = true ∧ endRun rows zs (f + 1) s = rnd rows zs s := by
  constructor
  · unfold okRun; rw [h, if_pos h0]; rfl
  · unfold endRun; exact if_pos h0
theorem run_on (h : okTo rows zs s rows.length = true) (h0 : cn rows zs s rows.length ≠ 0) : okRun rows zs (f + 1) s = okRun rows zs f (rnd rows zs s) ∧ endRun rows zs (f + 1) s = endRun rows zs f (rnd rows zs s) := by
  constructor
  · conv => lhs; unfold okRun
    rw [h, if_neg h0]; rfl
  · conv => lhs; unfold endRun
    exact if_neg h0
end
/-- What a run asks for. -/
def rnB (rows : List (List Int)) (zs : List Int) (r : Int) : Bool := margin.hpB rows zs && (decide (1 ≤ r) && decide (r ≤ 12))
theorem rnB_iff (rows : List (List Int)) (zs : List Int) (r : Int) : rnB rows zs r = true ↔ sampleB rows zs = true ∧ 0 < rows.length ∧ 1 ≤ r ∧ r ≤ 12 := by simp [rnB, margin.hpB_iff, and_assoc]
def ini (rows : List (List Int)) : Sta := init (rows.getD 0 []).length
def okR (rows : List (List Int)) (zs : List Int) (r : Int) : Bool := okRun rows zs r.toNat (ini rows)
def fin (rows : List (List Int)) (zs : List Int) (r : Int) : Sta := endRun rows zs r.toNat (ini rows)
end Go.Proofs.Ytocbklmkphgkeaa.runp
