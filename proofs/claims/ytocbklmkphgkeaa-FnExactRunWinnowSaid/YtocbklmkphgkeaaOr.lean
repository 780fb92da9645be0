/- The walks of the model's and the program's OrAnswers. -/
import Derived.Test.YtocbklmkphgkeaaRowsW
import Derived.Test.YtocbklmkphgkeaaRising
import Derived.Test.YtocbklmkphgkeaaMisBound
namespace Go.Proofs.Ytocbklmkphgkeaa.orw
open Go.RowKit own pp nums range winbound rowsw rising
set_option linter.unusedVariables false
set_option linter.unusedSimpArgs false

theorem infoInt : (Try.prog.info? 3).map (fun i => (i.zero, i.size, i.bytes)) = some (some (.int .i64 0), 1, 8) := by kernel_rfl

/-- The greatest number of a row at the first k places of a set, or 0. -/
def orMax (r set : List Int) : Nat → Int
  | 0 => 0
  | k + 1 => max (orMax r set k) (r.getD (set.getD k 0).toNat 0)
def hasOne (r set : List Int) : Bool := set.any fun p => r.getD p.toNat 0 == 1
def orOf (r set : List Int) : Int := orMax r set set.length
def ors (rows : List (List Int)) (set : List Int) (k : Nat) : List Int := (List.range k).map fun i => orOf (rows.getD i []) set
theorem ors_length (rows : List (List Int)) (set : List Int) (k : Nat) : (ors rows set k).length = k := by simp [ors]
theorem ors_succ (rows : List (List Int)) (set : List Int) (k : Nat) : ors rows set (k + 1) = ors rows set k ++ [orOf (rows.getD k []) set] := by simp [ors, List.range_succ]

/-- What the answers ask for. -/
def orB (n : Int) (rows : List (List Int)) (set : List Int) : Bool := allB n rows && risesB n set
theorem orB_iff (n : Int) (rows : List (List Int)) (set : List Int) : orB n rows set = true ↔ allB n rows = true ∧ risesB n set = true := by simp [orB]
structure Fit (n : Int) (rows : List (List Int)) (set : List Int) : Prop where
  pos : 1 ≤ n
  le : n ≤ 8
  many : rows.length ≤ 40
  len : ∀ k, k < rows.length → ((rows.getD k []).length : Int) = n
  bits : ∀ k, k < rows.length → numsR 0 1 (rows.getD k []) = true
  set : ∀ k, k < set.length → 0 ≤ set.getD k 0 ∧ set.getD k 0 ≤ n - 1
theorem fit_all {n : Int} {rows : List (List Int)} (h : allB n rows = true) : 1 ≤ n ∧ n ≤ 8 ∧ rows.length ≤ 40 ∧ ∀ k, k < rows.length → ((rows.getD k []).length : Int) = n ∧ numsR 0 1 (rows.getD k []) = true := by
  simp only [allB, Bool.and_eq_true, decide_eq_true_eq] at h
  refine ⟨h.1.2.1, h.1.2.2, by omega, fun k hk => ?_⟩
  have := all_at _ [] rows h.1.1 k hk
  simp only [rowsB', Bool.and_eq_true, decide_eq_true_eq] at this
  exact ⟨this.2, this.1⟩
theorem Fit.of {n : Int} {rows : List (List Int)} {set : List Int} (h : orB n rows set = true) : Fit n rows set := by
  obtain ⟨h1, h2⟩ := (orB_iff _ _ _).1 h
  obtain ⟨a, b, c, d⟩ := fit_all h1
  refine ⟨a, b, c, fun k hk => (d k hk).1, fun k hk => (d k hk).2, fun k hk => ?_⟩
  have := rises_at h2 k hk
  simp only [riseAt, Bool.and_eq_true, decide_eq_true_eq] at this
  exact this.1
theorem bit_of {r : List Int} (h : numsR 0 1 r = true) (k : Nat) : 0 ≤ r.getD k 0 ∧ r.getD k 0 ≤ 1 := by
  by_cases hk : k < r.length
  · exact numsR_at h k hk
  · rw [List.getD_eq_getElem?_getD, List.getElem?_eq_none (by omega)]; simp
theorem max_bit {r set : List Int} (h : numsR 0 1 r = true) (k : Nat) (hk0 : k ≤ set.length) : orMax r set k = if (set.take k).any (fun p => r.getD p.toNat 0 == 1) then 1 else 0 := by
  induction k with
  | zero => rfl
  | succ k ih =>
    show max (orMax r set k) (r.getD (set.getD k 0).toNat 0) = _
    rw [ih (by omega)]
    have hk : k < set.length := by omega
    · rw [List.take_succ_eq_append_getElem hk, List.any_append]
      have e : set.getD k 0 = set[k] := by rw [List.getD_eq_getElem?_getD, List.getElem?_eq_getElem hk]; rfl
      have hb := bit_of h (set.getD k 0).toNat
      rw [e] at hb ⊢
      simp only [List.any_cons, List.any_nil, Bool.or_false]
      generalize r.getD (set[k]).toNat 0 = z at *
      cases hx : (set.take k).any fun p => r.getD p.toNat 0 == 1
      · by_cases hz : z = 1
        · simp [hz]; rfl
        · have : z = 0 := by omega
          simp [this]
      · simp; omega
theorem or_has {r set : List Int} (h : numsR 0 1 r = true) : orOf r set = if hasOne r set then 1 else 0 := by
  unfold orOf hasOne
  rw [max_bit h _ (Nat.le_refl _), List.take_length]
end Go.Proofs.Ytocbklmkphgkeaa.orw
