/- Lists of labels in order, and those that the hypotheses of a class have: plain; no condition. -/
import Derived.Test.YtncidajjeccbkaaAtW
import Derived.Test.YtncidajjeccbkaaBitN
import Derived.Test.YtncidajjeccbkaaSetOrd
namespace Go.Proofs.Ytncidajjeccbkaa.tracep
open Go.RowKit own pp bitn setcmp setord cls atw
set_option linter.unusedVariables false
set_option linter.unusedSimpArgs false

/-- The list of n labels with a number. -/
def labL (n k : Nat) : List Int := (List.range n).map fun i => 2 * ((dg k (n - 1 - i) : Nat) : Int) - 1
def allL (n : Nat) : List (List Int) := (List.range (2 ^ n)).map (labL n)
theorem lab_length (n k : Nat) : (labL n k).length = n := by simp [labL]
theorem allL_length (n : Nat) : (allL n).length = 2 ^ n := by simp [allL]
theorem allL_getD (n k : Nat) (h : k < 2 ^ n) : (allL n).getD k [] = labL n k := by
  unfold allL
  rw [List.getD_eq_getElem?_getD, List.getElem?_map, List.getElem?_eq_getElem (by simpa using h)]
  simp
/-- The digit of a label. -/
def dl (x : Int) : Nat := if x = 1 then 1 else 0
/-- The number of the first k labels of a list. -/
def codeTo (l : List Int) : Nat → Nat
  | 0 => 0
  | k + 1 => 2 * codeTo l k + dl (l.getD k 0)
theorem dl_le (x : Int) : dl x ≤ 1 := by unfold dl; split <;> omega
theorem code_lt (l : List Int) (k : Nat) : codeTo l k < 2 ^ k := by
  induction k with
  | zero => simp [codeTo]
  | succ k ih =>
    have := dl_le (l.getD k 0)
    rw [codeTo, Nat.pow_succ]; omega
theorem code_inj {l l' : List Int} : ∀ k, codeTo l k = codeTo l' k → ∀ i, i < k → dl (l.getD i 0) = dl (l'.getD i 0)
  | 0, _, i, hi => by omega
  | k + 1, h, i, hi => by
    rw [codeTo, codeTo] at h
    have h1 := dl_le (l.getD k 0)
    have h2 := dl_le (l'.getD k 0)
    by_cases e : i = k
    · subst e; omega
    · exact code_inj k (by omega) i (by omega)
def Lab (l : List Int) : Prop := ∀ i, i < l.length → l.getD i 0 = 1 ∨ l.getD i 0 = -1
theorem dl_inj {x y : Int} (hx : x = 1 ∨ x = -1) (hy : y = 1 ∨ y = -1) (h : dl x = dl y) : x = y := by
  unfold dl at h
  rcases hx with rfl | rfl <;> rcases hy with rfl | rfl <;> simp at h ⊢
theorem lab_inj {l l' : List Int} {n : Nat} (hl : l.length = n) (hl' : l'.length = n) (h1 : Lab l) (h2 : Lab l') (h : codeTo l n = codeTo l' n) : l = l' := by
  apply List.ext_getElem?
  intro i
  by_cases hi : i < n
  · have := dl_inj (h1 i (by omega)) (h2 i (by omega)) (code_inj n h i hi)
    rw [List.getD_eq_getElem?_getD, List.getD_eq_getElem?_getD, List.getElem?_eq_getElem (by omega), List.getElem?_eq_getElem (by omega)] at this
    rw [List.getElem?_eq_getElem (by omega), List.getElem?_eq_getElem (by omega)]
    exact congrArg some this
  · rw [List.getElem?_eq_none (by omega), List.getElem?_eq_none (by omega)]
def okc : List (List Int) → Bool
  | [] => true
  | [_] => true
  | x :: y :: t => befC x y && okc (y :: t)
def okL (n : Nat) : Bool := okc (allL n) && (List.range (2 ^ n)).all (fun k => codeTo (labL n k) n == k) && (List.range (2 ^ n)).all (fun k => (labL n k).all labelB)
theorem ok_all : ∀ n : Fin 9, okL n.val = true := by decide +kernel
/-- Strictly ascending. -/
def Sasc (l : List (List Int)) : Prop := l.Pairwise fun x y => befC x y = true
theorem okc_asc : ∀ (t : List (List Int)) (x : List Int), okc (x :: t) = true → (∀ y ∈ t, befC x y = true) ∧ Sasc (x :: t)
  | [], x, _ => ⟨fun y hy => (List.not_mem_nil hy).elim, List.pairwise_singleton _ _⟩
  | y :: t, x, h => by
    rw [okc, Bool.and_eq_true] at h
    obtain ⟨h1, h2⟩ := okc_asc t y h.2
    have h3 : ∀ z ∈ y :: t, befC x z = true := by
      intro z hz
      rcases List.mem_cons.1 hz with rfl | hz
      · exact h.1
      · exact befC_trans h.1 (h1 z hz)
    exact ⟨h3, List.pairwise_cons.2 ⟨h3, h2⟩⟩
theorem all_asc {n : Nat} (h8 : n ≤ 8) : Sasc (allL n) := by
  have h := ok_all ⟨n, by omega⟩
  unfold okL at h
  rw [Bool.and_eq_true, Bool.and_eq_true] at h
  cases hl : allL n with
  | nil => exact List.Pairwise.nil
  | cons x t => exact (okc_asc t x (by rw [← hl]; exact h.1.1)).2
theorem code_lab {n k : Nat} (h8 : n ≤ 8) (hk : k < 2 ^ n) : codeTo (labL n k) n = k := by
  have h := ok_all ⟨n, by omega⟩
  unfold okL at h
  rw [Bool.and_eq_true, Bool.and_eq_true] at h
  exact beq_iff_eq.1 (List.all_eq_true.1 h.1.2 k (List.mem_range.2 hk))
theorem lab_Lab {n k : Nat} (h8 : n ≤ 8) (hk : k < 2 ^ n) : Lab (labL n k) := by
  have h := ok_all ⟨n, by omega⟩
  unfold okL at h
  rw [Bool.and_eq_true, Bool.and_eq_true] at h
  have := List.all_eq_true.1 h.2 k (List.mem_range.2 hk)
  exact fun i hi => (labelB_iff _).1 (all_at _ 0 _ this i hi)
theorem lab_code {n : Nat} {l : List Int} (h8 : n ≤ 8) (hl : l.length = n) (h : Lab l) : labL n (codeTo l n) = l :=
  lab_inj (lab_length _ _) hl (lab_Lab h8 (code_lt l n)) h (code_lab h8 (code_lt l n))
theorem all_mem {n : Nat} {l : List Int} (h8 : n ≤ 8) (hl : l.length = n) (h : Lab l) : l ∈ allL n :=
  List.mem_map.2 ⟨codeTo l n, List.mem_range.2 (code_lt l n), lab_code h8 hl h⟩
theorem at_Lab {rows : List (List Int)} {m : Nat} (hC : Cls rows m) {i : Nat} (hi : i < rows.length) {set : List Int} (hin : Inside m set) : Lab (atL (rows.getD i []) set) := fun j hj => by
  rw [at_length] at hj
  rw [at_getD _ _ _ hj]
  have := hin j hj
  exact hC.at hi (by omega)
/-- A list put to its place, if it isn't there. -/
def kD (l : List (List Int)) (r : List Int) : Nat → Nat
  | 0 => 0
  | k + 1 => if befC r (l.getD k []) = true then kD l r k else k + 1
def trS (l : List (List Int)) (r : List Int) : List (List Int) := if kD l r l.length = 0 ∨ befC (l.getD (kD l r l.length - 1) []) r = true then insAt l (kD l r l.length) r else l
def trTo (rows : List (List Int)) (set : List Int) : Nat → List (List Int)
  | 0 => []
  | k + 1 => trS (trTo rows set k) (atL (rows.getD k []) set)
theorem kD_le (l : List (List Int)) (r : List Int) : ∀ k, kD l r k ≤ k
  | 0 => Nat.le_refl _
  | k + 1 => by
    rw [kD]
    split
    · exact Nat.le_trans (kD_le l r k) (by omega)
    · exact Nat.le_refl _
theorem kD_above (l : List (List Int)) (r : List Int) : ∀ k j, kD l r k ≤ j → j < k → befC r (l.getD j []) = true
  | 0, j, _, h => by omega
  | k + 1, j, h1, h2 => by
    rw [kD] at h1
    split at h1
    · rename_i hb
      by_cases e : j = k
      · rw [e]; exact hb
      · exact kD_above l r k j h1 (by omega)
    · omega
theorem kD_at (l : List (List Int)) (r : List Int) : ∀ k, 0 < kD l r k → befC r (l.getD (kD l r k - 1) []) = false
  | 0, h => by simp [kD] at h
  | k + 1, h => by
    rw [kD] at h ⊢
    split at h
    · rename_i hb
      rw [if_pos hb]
      exact kD_at l r k h
    · rename_i hb
      rw [if_neg hb, Nat.add_sub_cancel]
      simpa using hb
theorem getD_take_mem {l : List (List Int)} {k : Nat} {x : List Int} (h : x ∈ l.take k) : ∃ j, j < k ∧ j < l.length ∧ l.getD j [] = x := by
  obtain ⟨j, hj, e⟩ := List.mem_iff_getElem.1 h
  rw [List.length_take] at hj
  refine ⟨j, by omega, by omega, ?_⟩
  rw [List.getElem_take] at e
  rw [List.getD_eq_getElem?_getD, List.getElem?_eq_getElem (by omega)]
  exact e
theorem getD_drop_mem {l : List (List Int)} {k : Nat} {x : List Int} (h : x ∈ l.drop k) : ∃ j, k ≤ j ∧ j < l.length ∧ l.getD j [] = x := by
  obtain ⟨j, hj, e⟩ := List.mem_iff_getElem.1 h
  rw [List.length_drop] at hj
  refine ⟨k + j, by omega, by omega, ?_⟩
  rw [List.getElem_drop] at e
  rw [List.getD_eq_getElem?_getD, List.getElem?_eq_getElem (by omega)]
  exact e
theorem sasc_lt {l : List (List Int)} (h : Sasc l) {i j : Nat} (hij : i < j) (hj : j < l.length) : befC (l.getD i []) (l.getD j []) = true := by
  have := List.pairwise_iff_getElem.1 h i j (by omega) hj hij
  rw [List.getD_eq_getElem?_getD, List.getD_eq_getElem?_getD, List.getElem?_eq_getElem hj, List.getElem?_eq_getElem (by omega)]
  exact this
theorem mem_trS {l : List (List Int)} {r x : List Int} : x ∈ trS l r ↔ x ∈ l ∨ x = r := by
  unfold trS
  split
  · unfold insAt
    rw [List.mem_append, List.mem_cons]
    have e : x ∈ l ↔ x ∈ l.take (kD l r l.length) ∨ x ∈ l.drop (kD l r l.length) := by rw [← List.mem_append, List.take_append_drop]
    rw [e]
    constructor
    · rintro (h | h | h)
      · exact .inl (.inl h)
      · exact .inr h
      · exact .inl (.inr h)
    · rintro ((h | h) | h)
      · exact .inl h
      · exact .inr (.inr h)
      · exact .inr (.inl h)
  · rename_i hn
    constructor
    · exact .inl
    · rintro (h | h)
      · exact h
      · subst h
        have h0 : 0 < kD l x l.length := by
          rcases Nat.eq_zero_or_pos (kD l x l.length) with e | e
          · exact absurd (.inl e) hn
          · exact e
        have h1 := kD_at l x l.length h0
        have h2 : befC (l.getD (kD l x l.length - 1) []) x = false := by
          cases hb : befC (l.getD (kD l x l.length - 1) []) x
          · rfl
          · exact absurd (.inr hb) hn
        have h3 := kD_le l x l.length
        rw [befC_no] at h1 h2
        have h4 := lex_neg (l.getD (kD l x l.length - 1) []) x
        have e := lex_zero (l.getD (kD l x l.length - 1) []) x (by omega)
        rw [← e]
        exact getD_mem l [] _ (by omega)
theorem sasc_trS {l : List (List Int)} {r : List Int} (h : Sasc l) : Sasc (trS l r) := by
  unfold trS
  split
  · rename_i hc
    unfold insAt
    have hle := kD_le l r l.length
    have hlow : ∀ x ∈ l.take (kD l r l.length), befC x r = true := by
      intro x hx
      obtain ⟨j, hj, hjl, rfl⟩ := getD_take_mem hx
      rcases hc with h0 | h0
      · omega
      · by_cases e : j = kD l r l.length - 1
        · rw [e]; exact h0
        · exact befC_trans (sasc_lt h (show j < kD l r l.length - 1 by omega) (by omega)) h0
    have hhigh : ∀ x ∈ l.drop (kD l r l.length), befC r x = true := by
      intro x hx
      obtain ⟨j, hj, hjl, rfl⟩ := getD_drop_mem hx
      exact kD_above l r l.length j hj hjl
    refine List.pairwise_append.2 ⟨List.Pairwise.take h, List.pairwise_cons.2 ⟨hhigh, List.Pairwise.drop h⟩, ?_⟩
    intro x hx y hy
    rcases List.mem_cons.1 hy with rfl | hy
    · exact hlow x hx
    · exact befC_trans (hlow x hx) (hhigh y hy)
  · exact h
theorem tr_sasc (rows : List (List Int)) (set : List Int) : ∀ k, Sasc (trTo rows set k)
  | 0 => List.Pairwise.nil
  | k + 1 => sasc_trS (tr_sasc rows set k)
theorem tr_mem (rows : List (List Int)) (set : List Int) (x : List Int) : ∀ k, x ∈ trTo rows set k ↔ ∃ i, i < k ∧ x = atL (rows.getD i []) set
  | 0 => by
    constructor
    · intro h; exact (List.not_mem_nil h).elim
    · rintro ⟨i, hi, _⟩; omega
  | k + 1 => by
    rw [trTo, mem_trS, tr_mem rows set x k]
    constructor
    · rintro (⟨i, hi, e⟩ | e)
      · exact ⟨i, by omega, e⟩
      · exact ⟨k, by omega, e⟩
    · rintro ⟨i, hi, e⟩
      by_cases h : i = k
      · subst h; exact .inr e
      · exact .inl ⟨i, by omega, e⟩
theorem tr_length (rows : List (List Int)) (set : List Int) : ∀ k, (trTo rows set k).length ≤ k
  | 0 => Nat.le_refl _
  | k + 1 => by
    have ih := tr_length rows set k
    rw [trTo]
    unfold trS
    split
    · rw [insAt_length _ _ _ (kD_le _ _ _)]; omega
    · omega
/-- Some hypothesis has the labels with a number at the places of a set. -/
def hadTo (rows : List (List Int)) (set : List Int) (j k : Nat) : Bool := (List.range j).any fun i => codeTo (atL (rows.getD i []) set) set.length == k
theorem had_succ (rows : List (List Int)) (set : List Int) (j k : Nat) : hadTo rows set (j + 1) k = (hadTo rows set j k || (codeTo (atL (rows.getD j []) set) set.length == k)) := by
  unfold hadTo
  rw [List.range_succ, List.any_append]; simp
theorem had_iff (rows : List (List Int)) (set : List Int) (k : Nat) : hadTo rows set rows.length k = true ↔ ∃ i, i < rows.length ∧ codeTo (atL (rows.getD i []) set) set.length = k := by
  unfold hadTo
  rw [List.any_eq_true]
  constructor
  · rintro ⟨i, hi, e⟩
    exact ⟨i, List.mem_range.1 hi, beq_iff_eq.1 e⟩
  · rintro ⟨i, hi, e⟩
    exact ⟨i, List.mem_range.2 hi, beq_iff_eq.2 e⟩
theorem sasc_nodup {l : List (List Int)} (h : Sasc l) : l.Nodup := h.imp fun {a b} hab e => by rw [e, befC_irr] at hab; cases hab
theorem sasc_uniq {l m : List (List Int)} (hl : Sasc l) (hm : Sasc m) (h : ∀ x, x ∈ l ↔ x ∈ m) : l = m := by
  have hp : l.Perm m := (List.perm_ext_iff_of_nodup (sasc_nodup hl) (sasc_nodup hm)).2 h
  refine List.Perm.eq_of_pairwise (le := fun x y => befC x y = true) (fun a b _ _ h1 h2 => ?_) hl hm hp
  have := befC_trans h1 h2
  rw [befC_irr] at this; cases this
/-- The traces are the lists of labels that some hypothesis has. -/
def hadL (rows : List (List Int)) (set : List Int) : List (List Int) := ((List.range (2 ^ set.length)).filter (hadTo rows set rows.length)).map (labL set.length)
theorem tr_had {rows : List (List Int)} {m : Nat} (hC : Cls rows m) {set : List Int} (hin : Inside m set) (h8 : set.length ≤ 8) : trTo rows set rows.length = hadL rows set := by
  refine sasc_uniq (tr_sasc _ _ _) ?_ fun x => ?_
  · unfold hadL
    exact (all_asc h8).sublist (List.Sublist.map _ List.filter_sublist)
  · rw [tr_mem]
    unfold hadL
    rw [List.mem_map]
    constructor
    · rintro ⟨i, hi, rfl⟩
      refine ⟨codeTo (atL (rows.getD i []) set) set.length, List.mem_filter.2 ⟨List.mem_range.2 (code_lt _ _), (had_iff _ _ _).2 ⟨i, hi, rfl⟩⟩, lab_code h8 (at_length _ _) (at_Lab hC hi hin)⟩
    · rintro ⟨k, hk, rfl⟩
      obtain ⟨i, hi, e⟩ := (had_iff _ _ _).1 (List.mem_filter.1 hk).2
      exact ⟨i, hi, by rw [← e]; exact lab_code h8 (at_length _ _) (at_Lab hC hi hin)⟩
/-- A class shatters a set. -/
def shatB (rows : List (List Int)) (set : List Int) : Bool := (List.range (2 ^ set.length)).all (hadTo rows set rows.length)
theorem filter_len {α : Type} (p : α → Bool) : ∀ l : List α, decide ((l.filter p).length = l.length) = l.all p
  | [] => rfl
  | x :: l => by
    rw [List.all_cons, ← filter_len p l]
    have := List.length_filter_le p l
    by_cases h : p x = true
    · rw [List.filter_cons_of_pos h, h, Bool.true_and, decide_eq_decide, List.length_cons, List.length_cons]; omega
    · rw [List.filter_cons_of_neg h]
      have h2 : p x = false := by simpa using h
      rw [h2, Bool.false_and]
      exact decide_eq_false (by rw [List.length_cons]; omega)
theorem shat_iff {rows : List (List Int)} {m : Nat} (hC : Cls rows m) {set : List Int} (hin : Inside m set) (h8 : set.length ≤ 8) : decide ((trTo rows set rows.length).length = 2 ^ set.length) = shatB rows set := by
  rw [tr_had hC hin h8]
  unfold shatB hadL
  rw [← filter_len, List.length_map, List.length_range]
end Go.Proofs.Ytncidajjeccbkaa.tracep
