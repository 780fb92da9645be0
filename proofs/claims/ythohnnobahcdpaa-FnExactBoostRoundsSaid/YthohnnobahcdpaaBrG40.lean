/- Several texts in one. -/
import Derived.Test.YthohnnobahcdpaaBrG39
import Derived.Test.YthohnnobahcdpaaBrG32
namespace Go.Proofs.Ythohnnobahcdpaa.bestp
open Go.RowKit own pp nums bndp bndi stmp stmo stmt margin both wm hefts
set_option linter.unusedVariables false
set_option linter.unusedSimpArgs false

theorem stump_mem (rows : List (List Int)) (n k : Nat) (x : List Int × Int) (h : x ∈ stumpTo rows n k) : ∃ pl wt b, pl < k ∧ (wt = 1 ∨ wt = -1) ∧ b ∈ bnds rows pl wt ∧ x = (unitL n pl wt, b) := by
  induction k with
  | zero => cases h
  | succ k ih =>
    have h2 : x ∈ stumpTo rows n k ++ (stAt n k 1 (bnds rows k 1) ++ stAt n k (-1) (bnds rows k (-1))) := h
    rw [List.mem_append, List.mem_append] at h2
    rcases h2 with h2 | h2 | h2
    · obtain ⟨pl, wt, b, h3, h4, h5, h6⟩ := ih h2
      exact ⟨pl, wt, b, by omega, h4, h5, h6⟩
    · obtain ⟨b, hb, rfl⟩ := List.mem_map.1 h2
      exact ⟨k, 1, b, by omega, .inl rfl, hb, rfl⟩
    · obtain ⟨b, hb, rfl⟩ := List.mem_map.1 h2
      exact ⟨k, -1, b, by omega, .inr rfl, hb, rfl⟩
theorem bnd_bd {rows : List (List Int)} {pl : Nat} {wt : Int} (h0 : 0 < rows.length) (hF : PlFit rows pl) (hw : wt = 1 ∨ wt = -1) (b : Int) (hb : b ∈ bnds rows pl wt) : -9 ≤ b ∧ b ≤ 10 := by
  have hne : valsL rows pl wt rows.length ≠ [] := fun e => by have h9 := vals_length rows pl wt rows.length (Nat.le_refl _); rw [e] at h9; simp at h9; omega
  have hv := vals_bd (wt := wt) hF hw rows.length (Nat.le_refl _)
  have h1 := (bnd_mem (valsL rows pl wt rows.length) b).1 hb
  rw [bnd_last _ hne] at h1
  rcases h1 with h1 | h1
  · have := hv b h1; omega
  · have := hv _ (bndp.maxOf_mem _ hne); omega
theorem unit_nums (n pl : Nat) (wt : Int) (hw : wt = 1 ∨ wt = -1) : numsB 99 (unitL n pl wt) = true := by
  unfold numsB unitL
  rw [List.all_eq_true]
  intro z hz
  rcases List.mem_or_eq_of_mem_set hz with h | h
  · have := List.eq_of_mem_replicate h
    subst this
    decide
  · subst h
    rcases hw with rfl | rfl <;> decide
theorem plfit_of {rows : List (List Int)} {zs : List Int} (h : hpB rows zs = true) (k : Nat) (hk : k < (rows.getD 0 []).length) : PlFit rows k := by
  obtain ⟨hs9, h0⟩ := (hpB_iff _ _).1 h
  intro i hi
  have := all_at _ [] rows ((sampleB_iff _ _).1 hs9).2.2.2 i hi
  simp only [Bool.and_eq_true, decide_eq_true_eq] at this
  exact ⟨by omega, numsB_at ((pointB_iff _).1 this.1).2.2 k (by omega)⟩
theorem stump_both {rows : List (List Int)} {zs : List Int} (h : hpB rows zs = true) (x : List Int × Int) (hx : x ∈ stumpL rows) : bothB rows zs x.1 x.2 = true := by
  obtain ⟨hs9, h0⟩ := (hpB_iff _ _).1 h
  obtain ⟨pl, wt, b, h1, h2, h3, rfl⟩ := stump_mem _ _ _ _ hx
  have h4 := (row4 h).1
  have hb := bnd_bd h0 (plfit_of h pl h1) h2 b h3
  refine (bothB_iff _ _ _ _).2 ⟨hs9, (planeB_iff _ _).2 ⟨?_, ?_, unit_nums _ _ _ h2, (inB_iff _ _).2 (by omega)⟩, .inr ?_⟩
  · rw [unit_length]; omega
  · rw [unit_length]; exact h4
  · show _ = (unitL _ _ _).length
    rw [unit_length]
theorem stump_at {rows : List (List Int)} {zs : List Int} (h : hpB rows zs = true) (k : Nat) (hk : k < (stumpL rows).length) : bothB rows zs ((stumpL rows).getD k ([], 0)).1 ((stumpL rows).getD k ([], 0)).2 = true :=
  stump_both h _ (pp.getD_mem _ _ _ hk)
theorem stump_pos {rows : List (List Int)} {zs : List Int} (h : hpB rows zs = true) : 0 < (stumpL rows).length := by
  obtain ⟨hs9, h0⟩ := (hpB_iff _ _).1 h
  have := all_at _ [] rows ((sampleB_iff _ _).1 hs9).2.2.2 0 h0
  simp only [Bool.and_eq_true, decide_eq_true_eq] at this
  have h1 := ((pointB_iff _).1 this.1).1
  obtain ⟨m, hm⟩ : ∃ m, (rows.getD 0 []).length = m + 1 := ⟨(rows.getD 0 []).length - 1, by omega⟩
  unfold stumpL
  rw [hm]
  show 0 < (stumpTo rows (m + 1) m ++ (stAt (m + 1) m 1 (bnds rows m 1) ++ stAt (m + 1) m (-1) (bnds rows m (-1)))).length
  rw [List.length_append, List.length_append, stAt_length]
  unfold bnds bndL
  rw [List.length_append]
  simp only [List.length_cons, List.length_nil]
  omega
/-- The place of the first least among the first k numbers. -/
def bJ (f : Nat → Int) : Nat → Nat
  | 0 => 0
  | k + 1 => if f k < f (bJ f k) then k else bJ f k
theorem bJ_hit {f : Nat → Int} {k : Nat} (h : f k < f (bJ f k)) : bJ f (k + 1) = k := if_pos h
theorem bJ_miss {f : Nat → Int} {k : Nat} (h : ¬ f k < f (bJ f k)) : bJ f (k + 1) = bJ f k := if_neg h
theorem bJ_lt (f : Nat → Int) (k : Nat) (h : 0 < k) : bJ f k < k := by
  induction k with
  | zero => omega
  | succ k ih =>
    by_cases e : f k < f (bJ f k)
    · rw [bJ_hit e]; omega
    · rw [bJ_miss e]
      by_cases h0 : k = 0
      · subst h0; exact Nat.zero_lt_one
      · have := ih (by omega); omega
theorem bJ_one (f : Nat → Int) : bJ f 1 = 0 := by
  have : bJ f 1 = if f 0 < f (bJ f 0) then 0 else bJ f 0 := rfl
  rw [this]
  split <;> rfl
/-- The weighted mistakes of the stump at a place. -/
def fW (rows : List (List Int)) (zs hs : List Int) (k : Nat) : Int := wmTo rows zs hs ((stumpL rows).getD k ([], 0)).1 ((stumpL rows).getD k ([], 0)).2 rows.length
def bestX (rows : List (List Int)) (zs hs : List Int) : List Int × Int := (stumpL rows).getD (bJ (fW rows zs hs) (stumpL rows).length) ([], 0)
theorem best_mem {rows : List (List Int)} {zs : List Int} (h : hpB rows zs = true) (hs : List Int) : bestX rows zs hs ∈ stumpL rows :=
  pp.getD_mem _ _ _ (bJ_lt _ _ (stump_pos h))
end Go.Proofs.Ythohnnobahcdpaa.bestp
