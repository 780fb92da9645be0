/- Several texts in one. -/
import Derived.Test.YtoephhhofkmgjabSpG30
import Derived.Test.YtoephhhofkmgjabSpG25
import Derived.Test.YtoephhhofkmgjabSpG28
import Derived.Test.YtoephhhofkmgjabSpG14
namespace Go.Proofs.Ytoephhhofkmgjab.tie
open Go.RowKit own pp nums samplesv samplest sides margin ends pointswith boundw parts tab told bitw least5 has dots
set_option linter.unusedVariables false
set_option linter.unusedSimpArgs false

theorem told_row (n m k : Nat) (h : k < m) : (toldR n m).getD k [] = bitsTo k n := by simp [toldR, List.getD_eq_getElem?_getD, h]
theorem told_label (zs : List Int) (k : Nat) (h : k < zs.length) : (toldL zs zs.length).getD k 0 = 2 * zs.getD k 0 - 1 := by simp [toldL, List.getD_eq_getElem?_getD, h]
theorem told_len (zs : List Int) : (toldL zs zs.length).length = zs.length := toldL_length zs _ (Nat.le_refl _)
theorem told_fits {n : Nat} {zs ws : List Int} (hl : ws.length = n) (hW : W3 ws) : RowsFit (toldR n zs.length) ws := by
  intro k hk
  rw [toldR_length] at hk
  rw [told_row n _ k hk]
  exact ⟨by simp [bitsTo, hl], w3_small hW k n⟩
theorem told_dots {n : Nat} {zs ws : List Int} (hk : tabB n zs = true) (hl : ws.length = n) (hW : W3 ws) : DotBd (toldR n zs.length) (toldL zs zs.length) ws := by
  obtain ⟨m0, he, h4, _, _, _⟩ := tab_nat hk
  intro k hk'
  rw [toldR_length] at hk'
  rw [told_row n _ k hk', told_label zs k hk']
  have := pr_bd hW (by omega) n k
  unfold pr at this
  refine ⟨by omega, ?_⟩
  rcases tab_at hk k hk' with h | h <;> rw [h] <;> simp
theorem bits_point (k n : Nat) (h1 : 1 ≤ n) (h4 : n ≤ 4) : pointB (bitsTo k n) = true := by
  refine (pointB_iff _).2 ⟨by simpa [bitsTo] using h1, by simpa [bitsTo] using h4, ?_⟩
  unfold numsB bitsTo
  rw [List.all_eq_true]
  intro z hz
  obtain ⟨i, _, rfl⟩ := List.mem_map.1 hz
  unfold inB
  have : k / 2 ^ (i : Nat) % 2 < 2 := Nat.mod_lt _ (by omega)
  simp only [Bool.and_eq_true, decide_eq_true_eq]
  omega
theorem told_sample {n : Nat} {zs : List Int} (hk : tabB n zs = true) (h1 : 1 ≤ n) : sampleB (toldR n zs.length) (toldL zs zs.length) = true := by
  obtain ⟨m0, he, h4, hp, h16, _⟩ := tab_nat hk
  have hpos : 0 < zs.length := by rw [hp]; exact Nat.pos_of_ne_zero (by simp)
  refine (sampleB_iff _ _).2 ⟨by rw [toldR_length]; exact h16, by rw [told_len, toldR_length], ?_, ?_⟩
  · unfold labelsB
    rw [List.all_eq_true]
    intro z hz
    obtain ⟨k, hk', rfl⟩ := List.mem_iff_getElem.1 hz
    have hlt : k < zs.length := by rwa [told_len] at hk'
    have := told_label zs k hlt
    rw [List.getD_eq_getElem?_getD, List.getElem?_eq_getElem hk'] at this
    rw [show (toldL zs zs.length)[k] = 2 * zs.getD k 0 - 1 from by simpa using this]
    rcases tab_at hk k hlt with h | h <;> rw [h] <;> decide
  · unfold rowsB
    rw [List.all_eq_true]
    intro r hr
    rw [told_row n _ 0 hpos]
    obtain ⟨k, _, rfl⟩ := List.mem_map.1 hr
    simp only [Bool.and_eq_true, decide_eq_true_eq]
    exact ⟨bits_point k n h1 (by omega), by simp [bitsTo]⟩
theorem tie {n : Nat} {zs ws : List Int} (hk : tabB n zs = true) (hl : ws.length = n) (hW : W3 ws) (k : Nat) (hkk : k ≤ zs.length) :
    (lowTo (toldR n zs.length) (toldL zs zs.length) ws 9223372036854775807 k = if (st n zs ws k).o = 0 then 9223372036854775807 else (st n zs ws k).l) ∧
    (highTo (toldR n zs.length) (toldL zs zs.length) ws (-9223372036854775808) k = if (st n zs ws k).x = 0 then -9223372036854775808 else (st n zs ws k).m) ∧
    (placesTo (hasL (toldL zs zs.length) 1) k).length = (st n zs ws k).o ∧ (-12 ≤ (st n zs ws k).l ∧ (st n zs ws k).l ≤ 12) ∧ (-12 ≤ (st n zs ws k).m ∧ (st n zs ws k).m ≤ 12) ∧ (st n zs ws k).o + (st n zs ws k).x = k := by
  obtain ⟨m0, he, h4, _, _, _⟩ := tab_nat hk
  induction k with
  | zero => refine ⟨rfl, rfl, rfl, ⟨?_, ?_⟩, ⟨?_, ?_⟩, rfl⟩ <;> (show _ ≤ _; simp [st])
  | succ k ih =>
    obtain ⟨i1, i2, i3, i4, i5, i6⟩ := ih (by omega)
    have hlt : k < zs.length := by omega
    have hb := pr_bd hW (by omega) n k
    have hlab := told_label zs k hlt
    unfold lowTo highTo
    rw [told_row n _ k hlt, hlab, i1, i2, show dot ws (bitsTo k n) = pr ws n k from rfl]
    by_cases h1 : zs.getD k 0 = 1
    · rw [st_one h1, placesTo_hit _ _ (show hasL (toldL zs zs.length) 1 k = true by unfold hasL; rw [hlab, h1]; rfl), h1]
      generalize st n zs ws k = s at *
      generalize pr ws n k = y at *
      obtain ⟨so, sx, sl, sm⟩ := s
      simp only [List.length_append, List.length_singleton] at *
      refine ⟨?_, ?_, by omega, ?_, ?_, by omega⟩
      · rw [if_pos (by decide), if_neg (show ¬ so + 1 = 0 by omega)]
        by_cases e : so = 0
        · rw [if_pos e, if_pos (Or.inl e)]; omega
        · rw [if_neg e]; split <;> omega
      · rw [if_pos (by decide)]
      · split <;> omega
      · omega
    · have h0 : zs.getD k 0 = 0 := (tab_at hk k hlt).resolve_right h1
      rw [st_other h1, placesTo_miss _ _ (show hasL (toldL zs zs.length) 1 k = false by unfold hasL; rw [hlab, h0]; rfl), h0]
      generalize st n zs ws k = s at *
      generalize pr ws n k = y at *
      obtain ⟨so, sx, sl, sm⟩ := s
      simp only at *
      refine ⟨?_, ?_, i3, ?_, ?_, by omega⟩
      · rw [if_neg (by decide)]
      · rw [if_neg (by decide), if_neg (show ¬ sx + 1 = 0 by omega)]
        by_cases e : sx = 0
        · rw [if_pos e, if_pos (Or.inl e)]; omega
        · rw [if_neg e]; split <;> omega
      · omega
      · split <;> omega
theorem has_o (n : Nat) (zs ws : List Int) (k : Nat) (hkk : k ≤ zs.length) : (st n zs ws k).o = 0 ↔ ∀ j, j < k → zs.getD j 0 ≠ 1 := by
  induction k with
  | zero => exact ⟨fun _ j hj => by omega, fun _ => rfl⟩
  | succ k ih =>
    by_cases h1 : zs.getD k 0 = 1
    · rw [st_one h1]
      exact ⟨fun h => by simp at h, fun h => absurd h1 (h k (by omega))⟩
    · rw [st_other h1]
      show (st n zs ws k).o = 0 ↔ _
      rw [ih (by omega)]
      exact ⟨fun h j hj => by rcases Nat.lt_succ_iff_lt_or_eq.1 hj with h' | h'; exact h j h'; rw [h']; exact h1, fun h j hj => h j (by omega)⟩
/-- The bound of weights that part a table. -/
def bd (n : Nat) (zs ws : List Int) : Int := if hasB zs 1 = true then (st n zs ws zs.length).l else (st n zs ws zs.length).m + 1
theorem tie_end {n : Nat} {zs ws : List Int} (hk : tabB n zs = true) (hl : ws.length = n) (hW : W3 ws) :
    decide (hi (toldR n zs.length) (toldL zs zs.length) ws < lo (toldR n zs.length) (toldL zs zs.length) ws) = partsB n zs ws ∧
    (partsB n zs ws = true → bnd (toldR n zs.length) (toldL zs zs.length) ws = bd n zs ws) ∧ hi (toldR n zs.length) (toldL zs zs.length) ws ≤ 1048576 ∧ (-12 ≤ bd n zs ws ∧ bd n zs ws ≤ 13) := by
  obtain ⟨m0, he, h4, hp, h16, _⟩ := tab_nat hk
  have hpos : 0 < zs.length := by rw [hp]; exact Nat.pos_of_ne_zero (by simp)
  obtain ⟨i1, i2, i3, i4, i5, i6⟩ := tie hk hl hW zs.length (Nat.le_refl _)
  have ho := has_o n zs ws zs.length (Nat.le_refl _)
  have hB : hasB zs 1 = true ↔ (st n zs ws zs.length).o ≠ 0 := by
    constructor
    · intro h e
      obtain ⟨k, hk', h1⟩ := hasB_ex h
      exact ho.1 e k hk' h1
    · intro h
      cases hh : hasB zs 1
      · refine absurd (ho.2 fun j hj h1 => ?_) h
        rw [hasB_at hj h1] at hh; cases hh
      · rfl
  unfold bnd hi lo bd partsB
  rw [told_len, toldR_length, i1, i2, i3]
  generalize st n zs ws zs.length = s at *
  obtain ⟨so, sx, sl, sm⟩ := s
  simp only at *
  by_cases e1 : so = 0
  · have hb : hasB zs 1 = false := by cases h : hasB zs 1; rfl; exact absurd e1 (hB.1 h)
    subst e1
    have e2 : ¬ sx = 0 := by omega
    rw [hb]
    simp [e2]
    refine ⟨by omega, ?_, by omega, by omega, by omega⟩
    intro h; omega
  · have hb : hasB zs 1 = true := hB.2 e1
    rw [hb]
    by_cases e2 : sx = 0
    · subst e2
      simp [e1]
      refine ⟨by omega, ?_, by omega, by omega⟩
      intro h; omega
    · simp [e1, e2]
      refine ⟨?_, by omega, by omega, by omega⟩
      intro h1 h2; omega
end Go.Proofs.Ytoephhhofkmgjab.tie
