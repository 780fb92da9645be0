/- Sets in order: plain lemmas, no condition. -/
import Derived.Test.YtncidajjeccbkaaSetCmp
import Derived.Test.YtncidajjeccbkaaOwnG
namespace Go.Proofs.Ytncidajjeccbkaa.setord
open Go.RowKit own setcmp
set_option linter.unusedVariables false
set_option linter.unusedSimpArgs false

theorem cmp_neg (x y : Int) : cmpI y x = - cmpI x y := by
  unfold cmpI
  by_cases h1 : x < y
  · rw [if_neg (by omega), if_pos h1, if_pos h1]; rfl
  · by_cases h2 : y < x
    · rw [if_pos h2, if_neg h1, if_pos h2]
    · rw [if_neg h2, if_neg h1, if_neg h1, if_neg h2]; rfl
theorem cmp_le {x y : Int} : cmpI x y ≤ 0 ↔ x ≤ y := by
  unfold cmpI
  split
  · constructor <;> intro <;> omega
  · split
    · constructor <;> intro <;> omega
    · constructor <;> intro <;> omega
theorem lex_neg : ∀ a b : List Int, lexC b a = - lexC a b
  | [], [] => rfl
  | [], _ :: _ => rfl
  | _ :: _, [] => rfl
  | x :: xs, y :: ys => by
    rw [lexC, lexC, cmp_neg x y]
    by_cases h : cmpI x y = 0
    · rw [if_pos (by omega), if_pos h]; exact lex_neg xs ys
    · rw [if_neg (by omega), if_neg h]
theorem lex_zero : ∀ a b : List Int, lexC a b = 0 → a = b
  | [], [], _ => rfl
  | [], _ :: _, h => by simp [lexC] at h
  | _ :: _, [], h => by simp [lexC] at h
  | x :: xs, y :: ys, h => by
    rw [lexC] at h
    by_cases e : cmpI x y = 0
    · rw [if_pos e] at h
      rw [cmp_zero.1 e, lex_zero xs ys h]
    · rw [if_neg e] at h; exact absurd h e
theorem lex_self (a : List Int) : lexC a a = 0 := by have := lex_neg a a; omega
theorem lex_le : ∀ a b c : List Int, lexC a b ≤ 0 → lexC b c ≤ 0 → lexC a c ≤ 0
  | [], _, [], _, _ => by simp [lexC]
  | [], _, _ :: _, _, _ => by simp [lexC]
  | _ :: _, [], _, h, _ => by simp [lexC] at h
  | _ :: _, _ :: _, [], _, h => by simp [lexC] at h
  | x :: xs, y :: ys, z :: zs, h1, h2 => by
    rw [lexC] at h1 h2 ⊢
    by_cases e1 : cmpI x y = 0
    · rw [if_pos e1] at h1
      have e := cmp_zero.1 e1
      subst e
      by_cases e2 : cmpI x z = 0
      · rw [if_pos e2] at h2 ⊢
        exact lex_le xs ys zs h1 h2
      · rw [if_neg e2] at h2 ⊢
        exact h2
    · rw [if_neg e1] at h1
      have g1 := cmp_le.1 h1
      have g3 : x ≠ y := fun e => e1 (cmp_zero.2 e)
      have g2 : y ≤ z := by
        by_cases e2 : cmpI y z = 0
        · have := cmp_zero.1 e2; omega
        · rw [if_neg e2] at h2; exact cmp_le.1 h2
      have g4 : ¬ cmpI x z = 0 := fun e => by have := cmp_zero.1 e; omega
      rw [if_neg g4]
      exact cmp_le.2 (by omega)
theorem set_neg (a b : List Int) : setC b a = - setC a b := by
  unfold setC
  rw [cmp_neg (a.length : Int) (b.length : Int)]
  by_cases h : cmpI (a.length : Int) (b.length : Int) = 0
  · rw [if_pos (by omega), if_pos h]; exact lex_neg a b
  · rw [if_neg (by omega), if_neg h]
theorem set_zero {a b : List Int} (h : setC a b = 0) : a = b := by
  unfold setC at h
  by_cases e : cmpI (a.length : Int) (b.length : Int) = 0
  · rw [if_pos e] at h; exact lex_zero a b h
  · rw [if_neg e] at h; exact absurd h e
theorem set_self (a : List Int) : setC a a = 0 := by have := set_neg a a; omega
theorem set_le {a b c : List Int} (h1 : setC a b ≤ 0) (h2 : setC b c ≤ 0) : setC a c ≤ 0 := by
  unfold setC at *
  by_cases e1 : cmpI (a.length : Int) (b.length : Int) = 0
  · rw [if_pos e1] at h1
    have e := cmp_zero.1 e1
    rw [e]
    by_cases e2 : cmpI (b.length : Int) (c.length : Int) = 0
    · rw [if_pos e2] at h2 ⊢; exact lex_le a b c h1 h2
    · rw [if_neg e2] at h2 ⊢; exact h2
  · rw [if_neg e1] at h1
    have g1 := cmp_le.1 h1
    have g3 : (a.length : Int) ≠ (b.length : Int) := fun e => e1 (cmp_zero.2 e)
    have g2 : (b.length : Int) ≤ (c.length : Int) := by
      by_cases e2 : cmpI (b.length : Int) (c.length : Int) = 0
      · have := cmp_zero.1 e2; omega
      · rw [if_neg e2] at h2; exact cmp_le.1 h2
    have g4 : ¬ cmpI (a.length : Int) (c.length : Int) = 0 := fun e => by have := cmp_zero.1 e; omega
    rw [if_neg g4]
    exact cmp_le.2 (by omega)
/-- A set comes before another one. -/
def befB (a b : List Int) : Bool := decide (setC a b < 0)
theorem bef_irr (a : List Int) : befB a a = false := by unfold befB; rw [set_self]; rfl
theorem bef_no {a b : List Int} : befB a b = false ↔ setC b a ≤ 0 := by
  unfold befB
  rw [decide_eq_false_iff_not, set_neg a b]; omega
theorem bef_ntrans {a b c : List Int} (h1 : befB a b = false) (h2 : befB b c = false) : befB a c = false := by
  rw [bef_no] at *
  exact set_le h2 h1
theorem bef_anti {a b : List Int} (h1 : befB a b = false) (h2 : befB b a = false) : a = b := by
  rw [bef_no] at *
  exact set_zero (by have := set_neg a b; omega)
theorem bef_asym {a b : List Int} (h : befB a b = true) : befB b a = false := by
  cases h2 : befB b a
  · rfl
  · unfold befB at h h2
    rw [decide_eq_true_iff] at h h2
    have := set_neg a b; omega
theorem bef_trans {a b c : List Int} (h1 : befB a b = true) (h2 : befB b c = true) : befB a c = true := by
  cases h : befB a c
  · have h3 := bef_ntrans h (bef_asym h2)
    rw [h3] at h1; cases h1
  · rfl
/-- A set put to its place. -/
def insL : List (List Int) → List Int → List (List Int)
  | [], s => [s]
  | r :: rs, s => if befB r s = true then r :: insL rs s else s :: r :: rs
/-- Its place. -/
def plcL : List (List Int) → List Int → Nat
  | [], _ => 0
  | r :: rs, s => if befB r s = true then plcL rs s + 1 else 0
theorem plc_le : ∀ (l : List (List Int)) (s : List Int), plcL l s ≤ l.length
  | [], _ => Nat.le_refl _
  | r :: rs, s => by
    rw [plcL]
    split
    · have := plc_le rs s; rw [List.length_cons]; omega
    · exact Nat.zero_le _
theorem ins_eq : ∀ (l : List (List Int)) (s : List Int), l.take (plcL l s) ++ s :: l.drop (plcL l s) = insL l s
  | [], s => rfl
  | r :: rs, s => by
    rw [plcL, insL]
    split
    · rw [List.take_succ_cons, List.drop_succ_cons, List.cons_append, ins_eq rs s]
    · rfl
theorem plc_hit : ∀ (l : List (List Int)) (s : List Int) (k : Nat), k < plcL l s → befB (l.getD k []) s = true
  | [], s, k, h => by simp [plcL] at h
  | r :: rs, s, k, h => by
    rw [plcL] at h
    by_cases e : befB r s = true
    · rw [if_pos e] at h
      cases k with
      | zero => exact e
      | succ k => exact plc_hit rs s k (by omega)
    · rw [if_neg e] at h; omega
theorem plc_miss : ∀ (l : List (List Int)) (s : List Int), plcL l s < l.length → befB (l.getD (plcL l s) []) s = false
  | [], s, h => by simp [plcL] at h
  | r :: rs, s, h => by
    by_cases e : befB r s = true
    · have h2 : plcL (r :: rs) s = plcL rs s + 1 := if_pos e
      rw [h2] at h ⊢
      rw [List.length_cons] at h
      exact plc_miss rs s (by omega)
    · have h2 : plcL (r :: rs) s = 0 := if_neg e
      rw [h2]
      show befB r s = false
      simpa using e
theorem ins_perm (l : List (List Int)) (s : List Int) : (insL l s).Perm (s :: l) := by
  rw [← ins_eq]
  exact List.perm_middle.trans (by rw [List.take_append_drop])
theorem ins_length (l : List (List Int)) (s : List Int) : (insL l s).length = l.length + 1 := by rw [(ins_perm l s).length_eq]; rfl
def Asc (l : List (List Int)) : Prop := l.Pairwise fun x y => befB y x = false
theorem ins_asc : ∀ (l : List (List Int)) (s : List Int), Asc l → Asc (insL l s)
  | [], s, _ => List.pairwise_singleton _ _
  | r :: rs, s, h => by
    have hc := List.pairwise_cons.1 h
    rw [insL]
    by_cases e : befB r s = true
    · rw [if_pos e]
      refine List.pairwise_cons.2 ⟨fun x hx => ?_, ins_asc rs s hc.2⟩
      rcases List.mem_cons.1 ((ins_perm rs s).mem_iff.1 hx) with rfl | hx
      · exact bef_asym e
      · exact hc.1 x hx
    · rw [if_neg e]
      have e : befB r s = false := by simpa using e
      refine List.pairwise_cons.2 ⟨fun x hx => ?_, h⟩
      rcases List.mem_cons.1 hx with rfl | hx
      · exact e
      · exact bef_ntrans (hc.1 x hx) e
/-- Sets put to their places, one behind the other. -/
def putsL (l : List (List Int)) : List (List Int) := l.foldl insL []
theorem puts_snoc (l : List (List Int)) (s : List Int) : putsL (l ++ [s]) = insL (putsL l) s := by unfold putsL; rw [List.foldl_append]; rfl
theorem puts_all (l acc : List (List Int)) (h : Asc acc) : (l.foldl insL acc).Perm (acc ++ l) ∧ Asc (l.foldl insL acc) := by
  induction l generalizing acc with
  | nil => exact ⟨by rw [List.append_nil]; exact List.Perm.refl _, h⟩
  | cons s l ih =>
    have := ih (insL acc s) (ins_asc acc s h)
    refine ⟨this.1.trans ?_, this.2⟩
    exact ((ins_perm acc s).append_right l).trans (List.perm_middle.symm)
theorem puts_perm (l : List (List Int)) : (putsL l).Perm l := (puts_all l [] List.Pairwise.nil).1
theorem puts_asc (l : List (List Int)) : Asc (putsL l) := (puts_all l [] List.Pairwise.nil).2
theorem puts_uniq {l m : List (List Int)} (hp : m.Perm l) (ha : Asc m) : m = putsL l :=
  List.Perm.eq_of_pairwise (le := fun x y => befB y x = false) (fun a b _ _ h1 h2 => bef_anti h2 h1) ha (puts_asc l) (hp.trans (puts_perm l).symm)
/-- Rows as pairs. -/
theorem rows_iff (lo hi : Nat) (w : World) (cs : List Value) (rows : List (List Int)) : RowsOf lo hi w cs rows ↔ cs.length = rows.length ∧ (∀ x ∈ cs.zip rows, OwnI lo hi w x.1 x.2) ∧ (cs.zip rows).Pairwise fun x y => ∀ g, x.1.ownBlock = some g → y.1.ownBlock ≠ some g := by
  unfold RowsOf
  constructor
  · rintro ⟨hl, ho, hd⟩
    refine ⟨hl, fun x hx => ?_, ?_⟩
    · obtain ⟨i, hi, rfl⟩ := List.mem_iff_getElem.1 hx
      rw [List.length_zip] at hi
      have := ho i (by omega)
      rw [List.getD_eq_getElem?_getD, List.getD_eq_getElem?_getD, List.getElem?_eq_getElem (by omega), List.getElem?_eq_getElem (by omega)] at this
      rw [List.getElem_zip]
      exact this
    · rw [List.pairwise_iff_getElem]
      intro i j hi hj hij
      rw [List.length_zip] at hi hj
      have := hd i j hij (by omega)
      rw [List.getD_eq_getElem?_getD, List.getD_eq_getElem?_getD, List.getElem?_eq_getElem (by omega), List.getElem?_eq_getElem (by omega)] at this
      rw [List.getElem_zip, List.getElem_zip]
      exact this
  · rintro ⟨hl, ho, hd⟩
    refine ⟨hl, fun i hi => ?_, fun i j hij hj => ?_⟩
    · have hz : i < (cs.zip rows).length := by rw [List.length_zip]; omega
      have := ho _ (List.getElem_mem hz)
      rw [List.getElem_zip] at this
      rw [List.getD_eq_getElem?_getD, List.getD_eq_getElem?_getD, List.getElem?_eq_getElem (by omega), List.getElem?_eq_getElem hi]
      exact this
    · rw [List.pairwise_iff_getElem] at hd
      have := hd i j (by rw [List.length_zip]; omega) (by rw [List.length_zip]; omega) hij
      rw [List.getElem_zip, List.getElem_zip] at this
      rw [List.getD_eq_getElem?_getD, List.getD_eq_getElem?_getD, List.getElem?_eq_getElem (by omega), List.getElem?_eq_getElem (by omega)]
      exact this
theorem rows_perm {lo hi : Nat} {w : World} {cs cs' : List Value} {rows rows' : List (List Int)} (h : RowsOf lo hi w cs rows) (hl : cs'.length = rows'.length) (hp : (cs.zip rows).Perm (cs'.zip rows')) : RowsOf lo hi w cs' rows' := by
  rw [rows_iff] at *
  refine ⟨hl, fun x hx => h.2.1 x (hp.mem_iff.2 hx), (hp.pairwise_iff ?_).1 h.2.2⟩
  intro x y hxy g hg hg2
  exact hxy g hg2 hg
/-- One row more, at a place. -/
def insAt {α : Type} (l : List α) (k : Nat) (x : α) : List α := l.take k ++ x :: l.drop k
theorem insAt_length {α : Type} (l : List α) (k : Nat) (x : α) (h : k ≤ l.length) : (insAt l k x).length = l.length + 1 := by unfold insAt; simp; omega
theorem insAt_zip {α β : Type} (l : List α) (m : List β) (k : Nat) (x : α) (y : β) (h : l.length = m.length) (hk : k ≤ l.length) : (insAt l k x).zip (insAt m k y) = insAt (l.zip m) k (x, y) := by
  unfold insAt
  rw [List.zip_append (by simp; omega), List.zip_cons_cons]
  simp only [List.zip, List.take_zipWith, List.drop_zipWith]
theorem insAt_perm {α : Type} (l : List α) (k : Nat) (x : α) : (insAt l k x).Perm (l ++ [x]) := by
  unfold insAt
  refine List.perm_middle.trans ?_
  rw [List.take_append_drop]
  exact (List.perm_append_comm (l₁ := [x]) (l₂ := l))
theorem rows_ins {lo hi : Nat} {w : World} {cs : List Value} {rows : List (List Int)} {c : Value} {r : List Int} (h : RowsOf lo hi w (cs ++ [c]) (rows ++ [r])) (hl : cs.length = rows.length) (k : Nat) (hk : k ≤ cs.length) : RowsOf lo hi w (insAt cs k c) (insAt rows k r) :=
  rows_perm h (by rw [insAt_length _ _ _ hk, insAt_length _ _ _ (by omega), hl]) (by
    rw [List.zip_append hl, insAt_zip _ _ _ _ _ hl hk]
    exact (insAt_perm _ _ _).symm)
end Go.Proofs.Ytncidajjeccbkaa.setord
