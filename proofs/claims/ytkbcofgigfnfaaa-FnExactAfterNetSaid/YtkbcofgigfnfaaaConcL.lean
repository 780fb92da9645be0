/- The walk of the library's join of any number of lists of planes, none empty. -/
import Derived.Test.YtkbcofgigfnfaaaConcJ
import Derived.Test.YtkbcofgigfnfaaaNetL
namespace Go.Proofs.Ytkbcofgigfnfaaa.concl
open Go.RowKit own stmp concj
set_option linter.unusedVariables false
set_option linter.unusedSimpArgs false

def sumN (n : Nat → Nat) : Nat → Nat
  | 0 => 0
  | k + 1 => sumN n k + n k
def catV (V : Nat → List Value) : Nat → List Value
  | 0 => []
  | k + 1 => catV V k ++ V k
theorem sumN_mono (n : Nat → Nat) (i k : Nat) (h : i ≤ k) : sumN n i ≤ sumN n k := by
  induction k with
  | zero => obtain rfl : i = 0 := by omega
            exact Nat.le_refl _
  | succ k ih =>
    by_cases e : i = k + 1
    · rw [e]; exact Nat.le_refl _
    · have := ih (by omega)
      show sumN n i ≤ sumN n k + n k
      omega
theorem sumN_congr (n m : Nat → Nat) (k : Nat) (h : ∀ i, i < k → n i = m i) : sumN n k = sumN m k := by
  induction k with
  | zero => rfl
  | succ k ih =>
    show sumN n k + n k = sumN m k + m k
    rw [ih (fun i hi => h i (by omega)), h k (by omega)]
/-- The values of planes: headers of weights and bounds. -/
def Told (w : World) (vs : List Value) (l : List (List Int × Int)) : Prop :=
  vs.length = l.length * 2 ∧ ∀ k, k < l.length → ∃ p c, vs[k * 2]? = some (.slice p (l.getD k ([], 0)).1.length c) ∧ vs[k * 2 + 1]? = some (.int .i64 (l.getD k ([], 0)).2) ∧ (l.getD k ([], 0)).1.length ≤ c ∧ ints.Reads .i64 w p (l.getD k ([], 0)).1
theorem Told.nil (w : World) : Told w [] [] := ⟨rfl, fun k hk => by simp at hk⟩
theorem Told.below {w w' : World} {vs : List Value} {l : List (List Int × Int)} (h : Told w vs l) (hb : Below w.heap.size w w') : Told w' vs l :=
  ⟨h.1, fun k hk => by
    obtain ⟨p, c, h1, h2, h3, h4⟩ := h.2 k hk
    exact ⟨p, c, h1, h2, h3, h4.below hb⟩⟩
theorem Told.append {w : World} {vs us : List Value} {l m : List (List Int × Int)} (h : Told w vs l) (g : Told w us m) : Told w (vs ++ us) (l ++ m) := by
  refine ⟨by rw [List.length_append, List.length_append, h.1, g.1]; omega, fun k hk => ?_⟩
  by_cases e : k < l.length
  · obtain ⟨p, c, h1, h2, h3, h4⟩ := h.2 k e
    have hg : (l ++ m).getD k ([], 0) = l.getD k ([], 0) := by rw [List.getD_eq_getElem?_getD, List.getD_eq_getElem?_getD, List.getElem?_append_left e]
    rw [hg]
    have := h.1
    exact ⟨p, c, by rw [List.getElem?_append_left (by omega)]; exact h1, by rw [List.getElem?_append_left (by omega)]; exact h2, h3, h4⟩
  · rw [List.length_append] at hk
    obtain ⟨p, c, h1, h2, h3, h4⟩ := g.2 (k - l.length) (by omega)
    have hg : (l ++ m).getD k ([], 0) = m.getD (k - l.length) ([], 0) := by rw [List.getD_eq_getElem?_getD, List.getD_eq_getElem?_getD, List.getElem?_append_right (by omega)]
    rw [hg]
    have := h.1
    exact ⟨p, c, by rw [List.getElem?_append_right (by omega), show k * 2 - vs.length = (k - l.length) * 2 by omega]; exact h1, by rw [List.getElem?_append_right (by omega), show k * 2 + 1 - vs.length = (k - l.length) * 2 + 1 by omega]; exact h2, h3, h4⟩
theorem Told.one {w : World} {vs : List Value} {l : List (List Int × Int)} (h : Told w vs l) : ∀ u ∈ vs, u.oneCell' = true := by
  intro u hu
  obtain ⟨j, hj, rfl⟩ := List.mem_iff_getElem.1 hu
  obtain ⟨i, rfl | rfl⟩ : ∃ i, j = i * 2 ∨ j = i * 2 + 1 := ⟨j / 2, by omega⟩
  · obtain ⟨p, c, h1, _⟩ := h.2 i (by have := h.1; omega)
    rw [List.getElem?_eq_getElem hj] at h1
    rw [Option.some.inj h1]; rfl
  · obtain ⟨p, c, _, h1, _⟩ := h.2 i (by have := h.1; omega)
    rw [List.getElem?_eq_getElem hj] at h1
    rw [Option.some.inj h1]; rfl
theorem told_of {w : World} {a : Option Addr} {l : List (List Int × Int)} (h : ReadsJ w a l) : ∃ vs, CellsAt w a vs ∧ Told w vs l := by
  rcases h with rfl | ⟨b, off, rfl, hb, hc⟩
  · exact ⟨[], .inl rfl, Told.nil w⟩
  · obtain ⟨q, hq⟩ := Go.Deep.choose_lt (α := Option Addr × Nat) (p := fun k x => w.cell? ⟨b, off + k * 2, none⟩ = some (.slice x.1 (l.getD k ([], 0)).1.length x.2) ∧ w.cell? ⟨b, off + k * 2 + 1, none⟩ = some (.int .i64 (l.getD k ([], 0)).2) ∧
      (l.getD k ([], 0)).1.length ≤ x.2 ∧ ints.Reads .i64 w x.1 (l.getD k ([], 0)).1) (n := l.length) (fun k hk => by
        obtain ⟨p, c, h1, h2, h3, h4⟩ := hc k hk
        exact ⟨(p, c), h1, h2, h3, h4⟩)
    have hl : ((List.range l.length).map fun k => Value.slice (q k).1 (l.getD k ([], 0)).1.length (q k).2).length = l.length := by simp
    have hx : ∀ k, k < l.length → ((List.range l.length).map fun k => Value.slice (q k).1 (l.getD k ([], 0)).1.length (q k).2).getD k undef = Value.slice (q k).1 (l.getD k ([], 0)).1.length (q k).2 := fun k hk => by
      rw [List.getD_eq_getElem?_getD]; simp [hk]
    refine ⟨flatJ ((List.range l.length).map fun k => Value.slice (q k).1 (l.getD k ([], 0)).1.length (q k).2) l, .inr ⟨b, off, rfl, hb, fun j u hu => ?_⟩, flatJ_length _ _ hl, fun k hk => ?_⟩
    · have hj : j < (flatJ ((List.range l.length).map fun k => Value.slice (q k).1 (l.getD k ([], 0)).1.length (q k).2) l).length := (List.getElem?_eq_some_iff.1 hu).1
      rw [flatJ_length _ _ hl] at hj
      rw [Go.WideShapes.add_plain]
      obtain ⟨i, rfl | rfl⟩ : ∃ i, j = i * 2 ∨ j = i * 2 + 1 := ⟨j / 2, by omega⟩
      · rw [(flatJ_at _ _ hl i (by omega)).1, hx i (by omega)] at hu
        rw [← hu]
        exact (hq i (by omega)).1
      · rw [(flatJ_at _ _ hl i (by omega)).2] at hu
        rw [← hu, ← Nat.add_assoc]
        exact (hq i (by omega)).2.1
    · refine ⟨(q k).1, (q k).2, ?_, (flatJ_at _ _ hl k hk).2, (hq k hk).2.2.1, (hq k hk).2.2.2⟩
      rw [(flatJ_at _ _ hl k hk).1, hx k hk]
/-- A row that holds these values reads as the planes. -/
theorem reads_of {w : World} {lo : Nat} {v : Value} {n : Nat} {vs : List Value} {l : List (List Int × Int)} (h : w.ownsRow lo 45 2 v n vs) (ht : Told w vs l) (hn : n = l.length) : ∃ p c, v = .slice p l.length c ∧ ReadsJ w p l ∧ l.length ≤ c := by
  subst hn
  rcases h.2 with ⟨rfl, h0⟩ | ⟨g, cap, cur, rfl, hb, hh, hc, hm, hs, htk⟩
  · have : l = [] := List.length_eq_zero_iff.1 h0
    subst this
    exact ⟨none, 0, rfl, .inl rfl, Nat.le_refl _⟩
  · refine ⟨_, _, rfl, .inr ⟨g, 0, rfl, (Array.getElem?_eq_some_iff.1 hh).1, fun k hk => ?_⟩, hc⟩
    obtain ⟨p, c, h1, h2, h3, h4⟩ := ht.2 k hk
    have := ht.1
    rw [Nat.zero_add]
    refine ⟨p, c, ?_, ?_, h3, h4⟩
    · rw [h.cellAt (k * 2) (by omega)]; exact h1
    · rw [h.cellAt (k * 2 + 1) (by omega)]; exact h2

end Go.Proofs.Ytkbcofgigfnfaaa.concl
