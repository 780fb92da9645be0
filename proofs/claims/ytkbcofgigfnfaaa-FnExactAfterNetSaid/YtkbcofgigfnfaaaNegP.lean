/- A plane of a list turned in place, and a list of a list of lists: plain lemmas, no condition. -/
import Derived.Test.YtkbcofgigfnfaaaNetL
namespace Go.Proofs.Ytkbcofgigfnfaaa.negp
open Go.RowKit own
set_option linter.unusedVariables false

theorem getD_set {α : Type} (l : List α) (i j : Nat) (x d : α) (h : j < l.length) : (l.set i x).getD j d = if i = j then x else l.getD j d := by
  rw [List.getD_eq_getElem?_getD, List.getElem?_set, List.getD_eq_getElem?_getD]
  by_cases e : i = j
  · subst e; simp [h]
  · simp [e]
theorem flatJ_set (cs : List Value) (ps : List (List Int × Int)) (h : cs.length = ps.length) (k : Nat) (hk : k < ps.length) (c : Value) (x : List Int × Int) :
    flatJ (cs.set k c) (ps.set k x) = ((flatJ cs ps).set (k * 2) c).set (k * 2 + 1) (.int .i64 x.2) := by
  induction ps generalizing cs k with
  | nil => simp at hk
  | cons y ps ih =>
    cases cs with
    | nil => cases h
    | cons d cs =>
      cases k with
      | zero => rfl
      | succ k =>
        have := ih cs (by simpa using h) k (by simpa using hk)
        rw [show (k + 1) * 2 = k * 2 + 2 by omega, List.set_cons_succ, List.set_cons_succ]
        simp only [flatJ, this, List.set_cons_succ]
/-- One row in place of another, made behind all of them. -/
theorem RowsOf.put {lo hi hi' k : Nat} {w : World} {cs : List Value} {rows : List (List Int)} {c : Value} {r : List Int} (h : RowsOf lo hi w cs rows) (hk : k < rows.length) (hc : OwnI hi hi' w c r) (h1 : lo ≤ hi) (h2 : hi ≤ hi') : RowsOf lo hi' w (cs.set k c) (rows.set k r) := by
  obtain ⟨hl, ho, hd⟩ := h
  refine ⟨by simp [hl], fun i hi9 => ?_, fun i j hij hj g hg => ?_⟩
  · rw [List.length_set] at hi9
    rw [getD_set _ _ _ _ _ (by omega), getD_set _ _ _ _ _ hi9]
    by_cases e : k = i
    · rw [if_pos e, if_pos e]; exact hc.mono h1 (Nat.le_refl _)
    · rw [if_neg e, if_neg e]; exact (ho i hi9).mono (Nat.le_refl _) h2
  · rw [List.length_set] at hj
    rw [getD_set _ _ _ _ _ (by omega)] at hg
    rw [getD_set _ _ _ _ _ (by omega)]
    by_cases e : k = j
    · rw [if_pos e]
      rw [if_neg (by omega)] at hg
      intro hg2
      have a1 := (ho i (by omega)).lt hg
      have a2 := hc.lt hg2
      omega
    · rw [if_neg e]
      by_cases e2 : k = i
      · rw [if_pos e2] at hg
        intro hg2
        have a1 := (ho j hj).lt hg2
        have a2 := hc.lt hg
        omega
      · rw [if_neg e2] at hg
        exact hd i j hij hj g hg
/-- One plane in place of another. -/
theorem OwnK.put {lo hi hi' k g : Nat} {w : World} {q : Nat} {ps : List (List Int × Int)} {cs : List Value} {c : Value} {x : List Int × Int} (h : OwnK lo hi w (.slice (some ⟨g, 0, none⟩) ps.length q) ps cs) (hk : k < ps.length) (hc : OwnI hi hi' w c x.1) (h1 : lo ≤ hi) (h2 : hi ≤ hi') :
    OwnK lo hi' ((w.setCell ⟨g, k * 2, none⟩ c).setCell ⟨g, k * 2 + 1, none⟩ (.int .i64 x.2)) (.slice (some ⟨g, 0, none⟩) (ps.set k x).length q) (ps.set k x) (cs.set k c) := by
  obtain ⟨ho, hv, hr⟩ := h
  have hl : cs.length = ps.length := by rw [hr.1, List.length_map]
  have hg := hv g rfl
  have hs := ((ho.stored (k * 2) c).1.stored (k * 2 + 1) (.int .i64 x.2)).1
  rw [← flatJ_set cs ps hl k hk c x] at hs
  have hp := RowsOf.put (k := k) hr (by rw [List.length_map]; exact hk) hc h1 h2
  rw [← List.map_set] at hp
  refine ⟨by rw [List.length_set]; exact hs, fun g' e => Nat.lt_of_lt_of_le (hv g' e) h2, hp.keep fun g' _ _ _ hb => ?_⟩
  obtain ⟨i, hi9, he⟩ := hb
  have hne : g' ≠ g := fun e => by
    subst e
    exact ownsRow_ne (hp.2.1 i hi9).1 ho (by decide) he rfl
  rw [Below.heap_setCell _ _ _ _ (by show g' ≠ g; exact hne), Below.heap_setCell _ _ _ _ (by show g' ≠ g; exact hne)]
theorem OwnK.put_foot {v c : Value} {cs : List Value} {k n g hi hi' : Nat} {w : World} {r : List Int} (hl : cs.length = n) (hc : OwnI hi hi' w c r) (hf : FootJ v (cs.set k c) n g) : FootJ v cs n g ∨ hi ≤ g := by
  rcases hf with e | ⟨i, hi9, he⟩
  · exact .inl (.inl e)
  · rw [getD_set _ _ _ _ _ (by omega)] at he
    by_cases e : k = i
    · rw [if_pos e] at he; exact .inr (hc.lt he).1
    · rw [if_neg e] at he; exact .inl (.inr ⟨i, hi9, he⟩)
/-- One list of planes in place of another. -/
theorem LaysOf.put {lo hi hi' m : Nat} {w w' : World} {vs : List Value} {css : List (List Value)} {ls : List (List (List Int × Int))} {ps' : List (List Int × Int)} {cs' : List Value} (h : LaysOf lo hi w vs css ls) (hm : m < ls.length) (hk : OwnK lo hi' w' (vs.getD m undef) ps' cs')
    (hf : ∀ g, FootJ (vs.getD m undef) cs' ps'.length g → FootJ (vs.getD m undef) (css.getD m []) (ls.getD m []).length g ∨ hi ≤ g) (hb : ∀ g, g < hi → (vs.getD m undef).ownBlock ≠ some g → w'.heap[g]? = w.heap[g]?) (h2 : hi ≤ hi') : LaysOf lo hi' w' vs (css.set m cs') (ls.set m ps') := by
  obtain ⟨hl, hl2, ho, hd⟩ := h
  have hap : ∀ i, i < ls.length → i ≠ m → ∀ g, FootJ (vs.getD i undef) (css.getD i []) (ls.getD i []).length g → ¬ FootJ (vs.getD m undef) (css.getD m []) (ls.getD m []).length g := fun i hi9 hne g hg hg2 => by
    rcases Nat.lt_or_gt_of_ne hne with e | e
    · exact hd i m e hm g hg hg2
    · exact hd m i e hi9 g hg2 hg
  refine ⟨by simp [hl], by simp [hl2], fun i hi9 => ?_, fun i j hij hj g hg => ?_⟩
  · rw [List.length_set] at hi9
    rw [getD_set _ _ _ _ _ hi9, getD_set _ _ _ _ _ (by omega)]
    by_cases e : m = i
    · subst e; rw [if_pos rfl, if_pos rfl]; exact hk
    · rw [if_neg e, if_neg e]
      refine OwnK.widen ((ho i hi9).keep fun g hg => hb g ((ho i hi9).foot hg).2.1 fun e2 => ?_) (Nat.le_refl _) h2
      exact hap i hi9 (fun x => e x.symm) g hg (.inl e2)
  · rw [List.length_set] at hj
    rw [getD_set _ _ _ _ _ (by omega), getD_set _ _ _ _ _ (by omega)] at hg
    rw [getD_set _ _ _ _ _ (by omega), getD_set _ _ _ _ _ (by omega)]
    by_cases e : m = j
    · subst e
      rw [if_pos rfl, if_pos rfl]
      rw [if_neg (by omega), if_neg (by omega)] at hg
      intro hg2
      rcases hf g hg2 with h3 | h3
      · exact hap i (by omega) (by omega) g hg h3
      · have := ((ho i (by omega)).foot hg).2.1; omega
    · rw [if_neg e, if_neg e]
      by_cases e2 : m = i
      · subst e2
        rw [if_pos rfl, if_pos rfl] at hg
        intro hg2
        rcases hf g hg with h3 | h3
        · exact hap j hj (by omega) g hg2 h3
        · have := ((ho j hj).foot hg2).2.1; omega
      · rw [if_neg e2, if_neg e2] at hg
        exact hd i j hij hj g hg
end Go.Proofs.Ytkbcofgigfnfaaa.negp
