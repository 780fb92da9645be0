/- Places in the order of their distances. -/
import Derived.Test.YtkbcofgigfnfaaaSquares
import Derived.Test.YtkbcofgigfnfaaaDots
namespace Go.Proofs.Ytkbcofgigfnfaaa.nearp
open Go.RowKit own pp nums squares dots
set_option linter.unusedVariables false
set_option linter.unusedSimpArgs false

/-- A place put in behind those that are at most as far. -/
def ins (D : Int → Int) (p : Int) : List Int → List Int
  | [] => [p]
  | q :: l => if D p < D q then p :: q :: l else q :: ins D p l
theorem ins_length (D : Int → Int) (p : Int) (l : List Int) : (ins D p l).length = l.length + 1 := by
  induction l with
  | nil => rfl
  | cons q l ih =>
    unfold ins
    split
    · simp
    · simp [ih]
theorem ins_mem {D : Int → Int} {p x : Int} {l : List Int} (h : x ∈ ins D p l) : x = p ∨ x ∈ l := by
  induction l with
  | nil => simp [ins] at h; exact .inl h
  | cons q l ih =>
    unfold ins at h
    split at h
    · simp at h ⊢; exact h
    · simp only [List.mem_cons] at h ⊢
      rcases h with h | h
      · exact .inr (.inl h)
      · rcases ih h with h | h
        · exact .inl h
        · exact .inr (.inr h)
/-- How many come before a place that is put in. -/
def pos (D : Int → Int) (p : Int) : List Int → Nat
  | [] => 0
  | q :: l => if D p < D q then 0 else pos D p l + 1
theorem pos_le (D : Int → Int) (p : Int) (l : List Int) : pos D p l ≤ l.length := by
  induction l with
  | nil => exact Nat.le_refl _
  | cons q l ih =>
    unfold pos
    split
    · simp
    · simp; exact ih
theorem ins_pos (D : Int → Int) (p : Int) (l : List Int) : ins D p l = l.take (pos D p l) ++ p :: l.drop (pos D p l) := by
  induction l with
  | nil => rfl
  | cons q l ih =>
    unfold ins pos
    split
    · simp
    · simp [ih]
theorem pos_hit (D : Int → Int) (p : Int) (l : List Int) (k : Nat) (hk : k < pos D p l) : D (l.getD k 0) ≤ D p := by
  induction l generalizing k with
  | nil => simp [pos] at hk
  | cons q l ih =>
    unfold pos at hk
    split at hk
    · omega
    · cases k with
      | zero => simp; omega
      | succ k => simp; exact ih k (by omega)
theorem pos_miss (D : Int → Int) (p : Int) (l : List Int) (h : pos D p l < l.length) : D p < D (l.getD (pos D p l) 0) := by
  induction l with
  | nil => simp [pos] at h
  | cons q l ih =>
    by_cases h1 : D p < D q
    · have e : pos D p (q :: l) = 0 := if_pos h1
      rw [e]
      simpa using h1
    · have e : pos D p (q :: l) = pos D p l + 1 := if_neg h1
      rw [e] at h ⊢
      have := ih (by simpa using h)
      simpa using this
/-- Some places in the order of their distances. -/
def nearTo (D : Int → Int) (ps : List Int) : Nat → List Int
  | 0 => []
  | k + 1 => ins D (ps.getD k 0) (nearTo D ps k)
def near (D : Int → Int) (ps : List Int) : List Int := nearTo D ps ps.length
theorem nearTo_length (D : Int → Int) (ps : List Int) (k : Nat) : (nearTo D ps k).length = k := by
  induction k with
  | zero => rfl
  | succ k ih => unfold nearTo; rw [ins_length, ih]
theorem nearTo_mem {D : Int → Int} {ps : List Int} {x : Int} (k : Nat) (hk : k ≤ ps.length) (h : x ∈ nearTo D ps k) : x ∈ ps := by
  induction k with
  | zero => simp [nearTo] at h
  | succ k ih =>
    rcases ins_mem h with rfl | h
    · exact getD_mem ps 0 k (by omega)
    · exact ih (by omega) h
/-- The distances of the points of a sample from a point. -/
def dist (rows : List (List Int)) (xs : List Int) (p : Int) : Int := sq (rows.getD p.toNat []) xs
/-- The sum of the labels of the first k of some places. -/
def lsum (zs l : List Int) : Nat → Int
  | 0 => 0
  | k + 1 => lsum zs l k + zs.getD (l.getD k 0).toNat 0
theorem lsum_bd (zs l : List Int) (h : ∀ x, -1 ≤ zs.getD x 0 ∧ zs.getD x 0 ≤ 1) (k : Nat) : -(k : Int) ≤ lsum zs l k ∧ lsum zs l k ≤ (k : Int) := by
  induction k with
  | zero => simp [lsum]
  | succ k ih =>
    have h1 := h (l.getD k 0).toNat
    show -((k + 1 : Nat) : Int) ≤ lsum zs l k + zs.getD (l.getD k 0).toNat 0 ∧ lsum zs l k + zs.getD (l.getD k 0).toNat 0 ≤ ((k + 1 : Nat) : Int)
    omega
/-- The near label of k neighbors among some places. -/
def nlab (rows : List (List Int)) (zs ps xs : List Int) (k : Nat) : Int := lab (lsum zs (near (dist rows xs) ps) k)
end Go.Proofs.Ytkbcofgigfnfaaa.nearp
