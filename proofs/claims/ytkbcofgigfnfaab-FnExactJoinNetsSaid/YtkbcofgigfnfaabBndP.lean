/- The bounds of stumps: numbers put to their places, once; sorted and compacted: plain lemmas, no condition. -/
import Derived.Test.YtkbcofgigfnfaabPlainPlane
import Derived.Lib.SlicesCompact
import Derived.Lib.Slices
namespace Go.Proofs.Ytkbcofgigfnfaab.bndp
open Go.Lib

def posI : List Int → Int → Nat
  | [], _ => 0
  | x :: xs, n => if x < n then posI xs n + 1 else 0
def insI : List Int → Int → List Int
  | [], n => [n]
  | x :: xs, n => if x < n then x :: insI xs n else if x = n then x :: xs else n :: x :: xs
def putI (l : List Int) (n : Int) : List Int := if posI l n < l.length ∧ l.getD (posI l n) 0 = n then l else l.take (posI l n) ++ n :: l.drop (posI l n)
theorem pos_le : ∀ (l : List Int) (n : Int), posI l n ≤ l.length
  | [], _ => Nat.le_refl _
  | x :: xs, n => by
    rw [posI]
    split
    · have := pos_le xs n; rw [List.length_cons]; omega
    · exact Nat.zero_le _
theorem pos_hit : ∀ (l : List Int) (n : Int) (k : Nat), k < posI l n → l.getD k 0 < n
  | [], n, k, h => by simp [posI] at h
  | x :: xs, n, k, h => by
    rw [posI] at h
    by_cases e : x < n
    · rw [if_pos e] at h
      cases k with
      | zero => exact e
      | succ k => exact pos_hit xs n k (by omega)
    · rw [if_neg e] at h; omega
theorem pos_miss : ∀ (l : List Int) (n : Int), posI l n < l.length → ¬ (l.getD (posI l n) 0 < n)
  | [], n, h => by simp [posI] at h
  | x :: xs, n, h => by
    by_cases e : x < n
    · have h2 : posI (x :: xs) n = posI xs n + 1 := if_pos e
      rw [h2] at h ⊢
      rw [List.length_cons] at h
      exact pos_miss xs n (by omega)
    · have h2 : posI (x :: xs) n = 0 := if_neg e
      rw [h2]
      exact e
theorem put_eq : ∀ (l : List Int) (n : Int), putI l n = insI l n
  | [], n => rfl
  | x :: xs, n => by
    by_cases e : x < n
    · have h2 : posI (x :: xs) n = posI xs n + 1 := if_pos e
      have ih := put_eq xs n
      unfold putI at ih ⊢
      rw [h2, show insI (x :: xs) n = x :: insI xs n from if_pos e, ← ih]
      by_cases h : posI xs n < xs.length ∧ xs.getD (posI xs n) 0 = n
      · rw [if_pos h, if_pos ⟨by rw [List.length_cons]; omega, h.2⟩]
      · rw [if_neg h, if_neg (fun h9 => h ⟨by have := h9.1; rw [List.length_cons] at this; omega, h9.2⟩)]
        rfl
    · have h2 : posI (x :: xs) n = 0 := if_neg e
      unfold putI
      rw [h2, show insI (x :: xs) n = (if x = n then x :: xs else n :: x :: xs) from if_neg e]
      by_cases e2 : x = n
      · rw [if_pos ⟨by rw [List.length_cons]; omega, e2⟩, if_pos e2]
      · rw [if_neg (fun h => e2 h.2), if_neg e2]
        rfl
theorem mem_ins : ∀ (l : List Int) (n x : Int), x ∈ insI l n ↔ x = n ∨ x ∈ l
  | [], n, x => by simp [insI]
  | y :: ys, n, x => by
    have ih := mem_ins ys n x
    by_cases e : y < n
    · rw [show insI (y :: ys) n = y :: insI ys n from if_pos e, List.mem_cons, List.mem_cons, ih]
      constructor <;> intro h <;> rcases h with h | h | h <;> simp [h]
    · rw [show insI (y :: ys) n = (if y = n then y :: ys else n :: y :: ys) from if_neg e]
      by_cases e2 : y = n
      · rw [if_pos e2]
        subst e2
        simp
      · rw [if_neg e2, List.mem_cons]
theorem strict_ins : ∀ (l : List Int) (n : Int), l.Pairwise (· < ·) → (insI l n).Pairwise (· < ·)
  | [], n, _ => by simp [insI]
  | y :: ys, n, h => by
    obtain ⟨h1, h2⟩ := List.pairwise_cons.1 h
    by_cases e : y < n
    · rw [show insI (y :: ys) n = y :: insI ys n from if_pos e]
      refine List.pairwise_cons.2 ⟨fun a ha => ?_, strict_ins ys n h2⟩
      rcases (mem_ins ys n a).1 ha with rfl | h3
      · exact e
      · exact h1 a h3
    · rw [show insI (y :: ys) n = (if y = n then y :: ys else n :: y :: ys) from if_neg e]
      by_cases e2 : y = n
      · rw [if_pos e2]; exact h
      · rw [if_neg e2]
        refine List.pairwise_cons.2 ⟨fun a ha => ?_, h⟩
        rcases List.mem_cons.1 ha with rfl | h3
        · omega
        · have := h1 a h3; omega
theorem ins_length_le : ∀ (l : List Int) (n : Int), (insI l n).length ≤ l.length + 1
  | [], n => Nat.le_refl _
  | y :: ys, n => by
    have := ins_length_le ys n
    unfold insI
    split
    · simp only [List.length_cons]; omega
    · split <;> simp only [List.length_cons] <;> omega
theorem ins_ne (l : List Int) (n : Int) : insI l n ≠ [] := by
  intro e
  have := (mem_ins l n n).2 (.inl rfl)
  rw [e] at this
  cases this
/-- All numbers, put to their places. -/
def insTo (vs : List Int) (k : Nat) : List Int := (vs.take k).foldl insI []
theorem insTo_zero (vs : List Int) : insTo vs 0 = [] := rfl
theorem insTo_succ (vs : List Int) (k : Nat) (h : k < vs.length) : insTo vs (k + 1) = insI (insTo vs k) (vs.getD k 0) := by
  unfold insTo
  rw [List.take_succ_eq_append_getElem h, List.foldl_append, List.getD_eq_getElem?_getD, List.getElem?_eq_getElem h]
  rfl
theorem insTo_strict (vs : List Int) (k : Nat) (h : k ≤ vs.length) : (insTo vs k).Pairwise (· < ·) := by
  induction k with
  | zero => simp [insTo_zero]
  | succ k ih => rw [insTo_succ vs k (by omega)]; exact strict_ins _ _ (ih (by omega))
theorem insTo_mem (vs : List Int) (k : Nat) (h : k ≤ vs.length) (x : Int) : x ∈ insTo vs k ↔ x ∈ vs.take k := by
  induction k with
  | zero => simp [insTo_zero]
  | succ k ih =>
    rw [insTo_succ vs k (by omega), mem_ins, ih (by omega), List.take_succ_eq_append_getElem (by omega), List.mem_append, List.mem_singleton, List.getD_eq_getElem?_getD, List.getElem?_eq_getElem (by omega : k < vs.length)]
    constructor <;> intro h <;> rcases h with h | h <;> simp_all
theorem insTo_length (vs : List Int) (k : Nat) (h : k ≤ vs.length) : (insTo vs k).length ≤ k := by
  induction k with
  | zero => simp [insTo_zero]
  | succ k ih =>
    rw [insTo_succ vs k (by omega)]
    have h1 := ih (by omega)
    have h2 := ins_length_le (insTo vs k) (vs.getD k 0)
    omega
theorem strict_ext : ∀ (l1 l2 : List Int), l1.Pairwise (· < ·) → l2.Pairwise (· < ·) → (∀ x, x ∈ l1 ↔ x ∈ l2) → l1 = l2
  | [], [], _, _, _ => rfl
  | [], b :: bs, _, _, h => by have := (h b).2 (by simp); cases this
  | a :: as, [], _, _, h => by have := (h a).1 (by simp); cases this
  | a :: as, b :: bs, h1, h2, h => by
    obtain ⟨a1, a2⟩ := List.pairwise_cons.1 h1
    obtain ⟨b1, b2⟩ := List.pairwise_cons.1 h2
    have e : a = b := by
      have ha := (h a).1 (by simp)
      have hb := (h b).2 (by simp)
      rcases List.mem_cons.1 ha with e | ha
      · exact e
      · rcases List.mem_cons.1 hb with e | hb
        · exact e.symm
        · have := b1 a ha
          have := a1 b hb
          omega
    subst e
    have e2 : as = bs := strict_ext as bs a2 b2 (fun x => by
      constructor
      · intro hx
        have h9 := a1 x hx
        rcases List.mem_cons.1 ((h x).1 (by simp [hx])) with e | hx2
        · omega
        · exact hx2
      · intro hx
        have h9 := b1 x hx
        rcases List.mem_cons.1 ((h x).2 (by simp [hx])) with e | hx2
        · omega
        · exact hx2)
    rw [e2]
theorem last_max : ∀ (l : List Int), l.Pairwise (· < ·) → ∀ x ∈ l, x ≤ l.getD (l.length - 1) 0
  | [], _, x, hx => by cases hx
  | [a], _, x, hx => by simp at hx; subst hx; simp
  | a :: b :: t, h, x, hx => by
    obtain ⟨a1, a2⟩ := List.pairwise_cons.1 h
    have ih := last_max (b :: t) a2
    have e : (a :: b :: t).getD ((a :: b :: t).length - 1) 0 = (b :: t).getD ((b :: t).length - 1) 0 := by
      simp only [List.length_cons]
      rw [show t.length + 1 + 1 - 1 = (t.length + 1 - 1) + 1 by omega, List.getD_cons_succ]
    rw [e]
    rcases List.mem_cons.1 hx with rfl | hx
    · have h1 := a1 b (by simp)
      have h2 := ih b (by simp)
      omega
    · exact ih x hx
theorem last_mem (l : List Int) (h : l ≠ []) : l.getD (l.length - 1) 0 ∈ l := pp.getD_mem l 0 _ (by have := List.length_pos_iff.2 h; omega)
theorem fold_max : ∀ (zs : List Int) (a : Int), a ≤ zs.foldl max a ∧ (∀ x ∈ zs, x ≤ zs.foldl max a) ∧ (zs.foldl max a = a ∨ zs.foldl max a ∈ zs)
  | [], a => ⟨Int.le_refl _, fun x hx => (by cases hx), .inl rfl⟩
  | z :: zs, a => by
    obtain ⟨h1, h2, h3⟩ := fold_max zs (max a z)
    have e : (z :: zs).foldl max a = zs.foldl max (max a z) := rfl
    rw [e]
    refine ⟨by omega, fun x hx => ?_, ?_⟩
    · rcases List.mem_cons.1 hx with rfl | hx
      · omega
      · exact h2 x hx
    · rcases h3 with h3 | h3
      · by_cases hm : a < z
        · exact .inr (by rw [h3, show max a z = z by omega]; simp)
        · exact .inl (by rw [h3]; omega)
      · exact .inr (by simp [h3])
theorem maxOf_ge (zs : List Int) (x : Int) (h : x ∈ zs) : x ≤ maxOf zs := (fold_max zs _).2.1 x h
theorem maxOf_mem (zs : List Int) (h : zs ≠ []) : maxOf zs ∈ zs := by
  rcases (fold_max zs (zs.headD 0)).2.2 with e | e
  · cases zs with
    | nil => exact absurd rfl h
    | cons z zs =>
      unfold maxOf
      rw [e]
      simp
  · exact e
/-- The bounds of the stumps at a place. -/
def bndL (vs : List Int) : List Int := insTo vs vs.length ++ [(insTo vs vs.length).getD ((insTo vs vs.length).length - 1) 0 + 1]
theorem bnd_mem (vs : List Int) (x : Int) : x ∈ bndL vs ↔ x ∈ vs ∨ x = (insTo vs vs.length).getD ((insTo vs vs.length).length - 1) 0 + 1 := by
  unfold bndL
  rw [List.mem_append, List.mem_singleton, insTo_mem vs vs.length (Nat.le_refl _), List.take_length]
theorem bnd_strict (vs : List Int) : (bndL vs).Pairwise (· < ·) := by
  have hs := insTo_strict vs vs.length (Nat.le_refl _)
  unfold bndL
  rw [List.pairwise_append]
  refine ⟨hs, by simp, fun a ha b hb => ?_⟩
  have := last_max _ hs a ha
  rw [List.mem_singleton] at hb
  omega
theorem bnd_last (vs : List Int) (h : vs ≠ []) : (insTo vs vs.length).getD ((insTo vs vs.length).length - 1) 0 = maxOf vs := by
  have hs := insTo_strict vs vs.length (Nat.le_refl _)
  have hm := insTo_mem vs vs.length (Nat.le_refl _)
  rw [List.take_length] at hm
  have hne : insTo vs vs.length ≠ [] := fun e => by
    have := (hm (maxOf vs)).2 (maxOf_mem vs h)
    rw [e] at this
    cases this
  have h1 := last_max _ hs (maxOf vs) ((hm _).2 (maxOf_mem vs h))
  have h2 := maxOf_ge vs _ ((hm _).1 (last_mem _ hne))
  omega
theorem bnd_length (vs : List Int) : (bndL vs).length ≤ vs.length + 1 := by
  unfold bndL
  rw [List.length_append]
  have := insTo_length vs vs.length (Nat.le_refl _)
  simp only [List.length_cons, List.length_nil]
  omega
theorem bang_getD (zs : List Int) (j : Nat) (h : j < zs.length) : zs.toArray[j]! = zs.getD j 0 := by
  rw [getElem!_pos zs.toArray j (by simpa using h), List.getD_eq_getElem?_getD, List.getElem?_eq_getElem h]
  simp
theorem sorted_at {zs : List Int} (h : zs.Pairwise (· ≤ ·)) {i j : Nat} (hij : i ≤ j) (hj : j < zs.length) : zs.getD i 0 ≤ zs.getD j 0 := by
  rw [List.getD_eq_getElem?_getD, List.getD_eq_getElem?_getD, List.getElem?_eq_getElem hj, List.getElem?_eq_getElem (by omega : i < zs.length)]
  by_cases e : i = j
  · subst e; exact Int.le_refl _
  · exact List.pairwise_iff_getElem.1 h i j (by omega) hj (by omega)
theorem compact_strict (zs : List Int) (h : zs.Pairwise (· ≤ ·)) : (compact zs).Pairwise (· < ·) := by
  unfold compact compactUpTo
  rw [List.pairwise_map]
  refine (List.Pairwise.filter _ List.pairwise_lt_range).imp_of_mem ?_
  intro i j hi hj hij
  obtain ⟨hi1, _⟩ := List.mem_filter.1 hi
  obtain ⟨hj1, hj2⟩ := List.mem_filter.1 hj
  have hi3 := List.mem_range.1 hi1
  have hj3 := List.mem_range.1 hj1
  unfold keeps at hj2
  rw [decide_eq_true_eq] at hj2
  rcases hj2 with e | hne
  · omega
  · rw [bang_getD zs j hj3, bang_getD zs (j - 1) (by omega)] at hne
    rw [bang_getD zs i hi3, bang_getD zs j hj3]
    have h1 := sorted_at h (show i ≤ j - 1 by omega) (by omega)
    have h2 := sorted_at h (show j - 1 ≤ j by omega) hj3
    omega
theorem compact_mem (zs : List Int) (x : Int) : x ∈ compact zs ↔ x ∈ zs := by
  unfold compact compactUpTo
  rw [List.mem_map]
  constructor
  · rintro ⟨j, hj, rfl⟩
    have hj2 := List.mem_range.1 (List.mem_filter.1 hj).1
    rw [bang_getD zs j hj2]
    exact pp.getD_mem zs 0 j hj2
  · intro hx
    obtain ⟨j, hj, rfl⟩ := pp.mem_getD zs 0 x hx
    have key : ∀ j, j < zs.length → ∃ i, i ≤ j ∧ keeps zs.toArray i = true ∧ zs.toArray[i]! = zs.toArray[j]! := by
      intro j
      induction j with
      | zero => exact fun _ => ⟨0, Nat.le_refl _, by simp [keeps], rfl⟩
      | succ j ih =>
        intro hj
        by_cases e : zs.toArray[j + 1]! = zs.toArray[j]!
        · obtain ⟨i, h1, h2, h3⟩ := ih (by omega)
          exact ⟨i, by omega, h2, h3.trans e.symm⟩
        · exact ⟨j + 1, Nat.le_refl _, keeps_pos (by rw [Nat.add_sub_cancel]; exact e), rfl⟩
    obtain ⟨i, h1, h2, h3⟩ := key j hj
    exact ⟨i, List.mem_filter.2 ⟨List.mem_range.2 (by omega), h2⟩, by rw [h3, bang_getD zs j hj]⟩
theorem sort_sorted (zs : List Int) : (zs.mergeSort fun x y => decide (x ≤ y)).Pairwise (· ≤ ·) := by
  have := List.pairwise_mergeSort (le := fun x y : Int => decide (x ≤ y)) (fun a b c h1 h2 => by simp at *; omega) (fun a b => by simp; omega) zs
  exact this.imp (fun h => by simpa using h)
/-- What the program's bounds are. -/
theorem bnd_eq (vs : List Int) (h : vs ≠ []) : compact ((vs ++ [maxOf vs + 1]).mergeSort fun x y => decide (x ≤ y)) = bndL vs := by
  refine strict_ext _ _ (compact_strict _ (sort_sorted _)) (bnd_strict vs) (fun x => ?_)
  rw [compact_mem, List.mem_mergeSort, bnd_mem, bnd_last vs h, List.mem_append, List.mem_singleton]
end Go.Proofs.Ytkbcofgigfnfaab.bndp
