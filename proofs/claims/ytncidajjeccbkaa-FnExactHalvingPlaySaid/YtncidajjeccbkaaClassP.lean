/- Classes: plain definitions and lemmas; no condition. -/
import Derived.Test.YtncidajjeccbkaaSetOrd
import Derived.Test.YtncidajjeccbkaaPlainPlane
namespace Go.Proofs.Ytncidajjeccbkaa.cls
open Go.RowKit own pp setcmp setord
set_option linter.unusedVariables false
set_option linter.unusedSimpArgs false

/-- A list comes before another one. -/
def befC (a b : List Int) : Bool := decide (lexC a b < 0)
/-- A row that may stand at its place in a class. -/
def hypB (rows : List (List Int)) (i : Nat) : Bool := ((decide ((rows.getD i []).length ≤ 8) && decide ((rows.getD i []).length = (rows.getD 0 []).length)) && labelsB (rows.getD i [])) && (decide (i = 0) || befC (rows.getD (i - 1) []) (rows.getD i []))
def hypsB (rows : List (List Int)) : Bool := (List.range rows.length).all (hypB rows)
def classB (rows : List (List Int)) : Bool := (decide (1 ≤ rows.length) && decide (rows.length ≤ 256)) && hypsB rows
theorem hyps_all {rows : List (List Int)} (h : ∀ k, k < rows.length → hypB rows k = true) : hypsB rows = true := by
  unfold hypsB
  rw [List.all_eq_true]
  intro k hk
  exact h k (List.mem_range.1 hk)
theorem hyps_at {rows : List (List Int)} (h : hypsB rows = true) (k : Nat) (hk : k < rows.length) : hypB rows k = true := by
  unfold hypsB at h
  rw [List.all_eq_true] at h
  exact h k (List.mem_range.2 hk)
theorem hyps_no {rows : List (List Int)} (k : Nat) (hk : k < rows.length) (h : hypB rows k = false) : hypsB rows = false := by
  cases hx : hypsB rows
  · rfl
  · rw [hyps_at hx k hk] at h; cases h
theorem class_no {rows : List (List Int)} (h : hypsB rows = false) : classB rows = false := by unfold classB; rw [h, Bool.and_false]
theorem class_iff (rows : List (List Int)) : classB rows = true ↔ 1 ≤ rows.length ∧ rows.length ≤ 256 ∧ hypsB rows = true := by simp [classB, and_assoc]
theorem hyp_iff (rows : List (List Int)) (i : Nat) : hypB rows i = true ↔ ((rows.getD i []).length ≤ 8 ∧ (rows.getD i []).length = (rows.getD 0 []).length) ∧ labelsB (rows.getD i []) = true ∧ (i = 0 ∨ befC (rows.getD (i - 1) []) (rows.getD i []) = true) := by simp [hypB, and_assoc]
/-- What a class is. -/
structure Cls (rows : List (List Int)) (m : Nat) : Prop where
  one : 1 ≤ rows.length
  top : rows.length ≤ 256
  m8 : m ≤ 8
  len : ∀ i, i < rows.length → (rows.getD i []).length = m
  lab : ∀ i, i < rows.length → labelsB (rows.getD i []) = true
  asc : ∀ i, i + 1 < rows.length → befC (rows.getD i []) (rows.getD (i + 1) []) = true
theorem cls_of {rows : List (List Int)} (h : classB rows = true) : Cls rows (rows.getD 0 []).length := by
  obtain ⟨h1, h2, h3⟩ := (class_iff rows).1 h
  have g : ∀ i, i < rows.length → _ := fun i hi => (hyp_iff rows i).1 (hyps_at h3 i hi)
  refine ⟨h1, h2, (g 0 (by omega)).1.1, fun i hi => (g i hi).1.2, fun i hi => (g i hi).2.1, fun i hi => ?_⟩
  rcases (g (i + 1) hi).2.2 with h | h
  · omega
  · exact h
theorem Cls.at {rows : List (List Int)} {m : Nat} (h : Cls rows m) {i j : Nat} (hi : i < rows.length) (hj : j < m) : (rows.getD i []).getD j 0 = 1 ∨ (rows.getD i []).getD j 0 = -1 :=
  (labelB_iff _).1 (all_at _ 0 _ (h.lab i hi) j (by rw [h.len i hi]; exact hj))
theorem Cls.mem {rows : List (List Int)} {m : Nat} (h : Cls rows m) : ∀ r ∈ rows, r.length ≤ 8 := fun r hr => by
  obtain ⟨k, hk, rfl⟩ := mem_getD rows [] r hr
  rw [h.len k hk]; exact h.m8
theorem befC_irr (a : List Int) : befC a a = false := by unfold befC; rw [lex_self]; rfl
theorem befC_iff {a b : List Int} : befC a b = true ↔ lexC a b < 0 := by unfold befC; rw [decide_eq_true_iff]
theorem befC_no {a b : List Int} : befC a b = false ↔ lexC b a ≤ 0 := by
  unfold befC
  rw [decide_eq_false_iff_not, lex_neg a b]; omega
theorem befC_trans {a b c : List Int} (h1 : befC a b = true) (h2 : befC b c = true) : befC a c = true := by
  rw [befC_iff] at *
  have h3 : lexC a c ≤ 0 := lex_le a b c (by omega) (by omega)
  have h4 : lexC a c ≠ 0 := fun e => by
    have := lex_zero _ _ e
    subst this
    have := lex_neg a b; omega
  omega
theorem Cls.lt {rows : List (List Int)} {m : Nat} (h : Cls rows m) {i : Nat} : ∀ {j : Nat}, i < j → j < rows.length → befC (rows.getD i []) (rows.getD j []) = true := by
  intro j
  induction j with
  | zero => intro h0; omega
  | succ j ih =>
    intro hij hj
    by_cases e : i = j
    · subst e; exact h.asc i hj
    · exact befC_trans (ih (by omega) (by omega)) (h.asc j hj)
theorem Cls.ne {rows : List (List Int)} {m : Nat} (h : Cls rows m) {i j : Nat} (hi : i < rows.length) (hj : j < rows.length) (e : rows.getD i [] = rows.getD j []) : i = j := by
  rcases Nat.lt_trichotomy i j with hl | hl | hl
  · have := h.lt hl hj; rw [e, befC_irr] at this; cases this
  · exact hl
  · have := h.lt hl hi; rw [e, befC_irr] at this; cases this
end Go.Proofs.Ytncidajjeccbkaa.cls
