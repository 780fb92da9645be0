/- Two lists of planes, made one behind the other, joined. -/
import Derived.Test.YtkbcofgigfnfaabConcL
import Derived.Test.YtkbcofgigfnfaabConcJ
import Derived.Test.YtkbcofgigfnfaabStmp
namespace Go.Proofs.Ytkbcofgigfnfaab.widc
open Go.RowKit own pp concl concj stmp
set_option linter.unusedVariables false
set_option linter.unusedSimpArgs false

theorem flat_app (cs cs' : List Value) (ps ps' : List (List Int × Int)) (h : cs.length = ps.length) : flatJ (cs ++ cs') (ps ++ ps') = flatJ cs ps ++ flatJ cs' ps' := by
  induction ps generalizing cs with
  | nil =>
    cases cs with
    | nil => rfl
    | cons _ _ => cases h
  | cons y ps ih =>
    cases cs with
    | nil => cases h
    | cons d cs =>
      have := ih cs (by simpa using h)
      simp only [List.cons_append, flatJ, this]
theorem rows_app {lo mid hi : Nat} {w : World} {cs cs' : List Value} {rows rows' : List (List Int)} (h : RowsOf lo mid w cs rows) (k : RowsOf mid hi w cs' rows') (h1 : lo ≤ mid) (h2 : mid ≤ hi) : RowsOf lo hi w (cs ++ cs') (rows ++ rows') := by
  obtain ⟨a1, a2, a3⟩ := h
  obtain ⟨b1, b2, b3⟩ := k
  have gl : ∀ i, i < rows.length → (cs ++ cs').getD i undef = cs.getD i undef ∧ (rows ++ rows').getD i [] = rows.getD i [] := fun i hi => by
    rw [List.getD_eq_getElem?_getD, List.getD_eq_getElem?_getD, List.getD_eq_getElem?_getD, List.getD_eq_getElem?_getD, List.getElem?_append_left (by omega), List.getElem?_append_left hi]
    exact ⟨rfl, rfl⟩
  have gr : ∀ i, rows.length ≤ i → (cs ++ cs').getD i undef = cs'.getD (i - rows.length) undef ∧ (rows ++ rows').getD i [] = rows'.getD (i - rows.length) [] := fun i hi => by
    rw [List.getD_eq_getElem?_getD, List.getD_eq_getElem?_getD, List.getD_eq_getElem?_getD, List.getD_eq_getElem?_getD, List.getElem?_append_right (by omega), List.getElem?_append_right hi, a1]
    exact ⟨rfl, rfl⟩
  refine ⟨by rw [List.length_append, List.length_append]; omega, fun i hi => ?_, fun i j hij hj g hg => ?_⟩
  · rw [List.length_append] at hi
    by_cases e : i < rows.length
    · rw [(gl i e).1, (gl i e).2]; exact (a2 i e).mono (Nat.le_refl _) h2
    · rw [(gr i (by omega)).1, (gr i (by omega)).2]; exact (b2 (i - rows.length) (by omega)).mono h1 (Nat.le_refl _)
  · rw [List.length_append] at hj
    by_cases ei : i < rows.length
    · rw [(gl i ei).1] at hg
      by_cases ej : j < rows.length
      · rw [(gl j ej).1]; exact a3 i j hij ej g hg
      · rw [(gr j (by omega)).1]
        intro hg2
        have h3 := (a2 i ei).lt hg
        have h4 := (b2 (j - rows.length) (by omega)).lt hg2
        omega
    · rw [(gr i (by omega)).1] at hg
      rw [(gr j (by omega)).1]
      exact b3 (i - rows.length) (j - rows.length) (by omega) (by omega) g hg
theorem k_len {lo hi : Nat} {w : World} {v : Value} {ps : List (List Int × Int)} {cs : List Value} (h : OwnK lo hi w v ps cs) : cs.length = ps.length := by
  have := h.2.2.1
  rw [List.length_map] at this
  exact this
theorem k_cells {lo hi : Nat} {w : World} {a : Option Addr} {n c : Nat} {ps : List (List Int × Int)} {cs : List Value} (h : OwnK lo hi w (.slice a n c) ps cs) : CellsAt w a (flatJ cs ps) := by
  rcases h.1.2 with ⟨e, h0⟩ | ⟨g, cap, cur, e, hb, hh, _⟩
  · left
    have : ps = [] := List.length_eq_zero_iff.1 h0
    subst this
    cases cs <;> rfl
  · cases e
    exact .inr ⟨g, 0, rfl, (Array.getElem?_eq_some_iff.1 hh).1, fun j u hu => h.1.cells (g := g) rfl j u hu⟩
theorem flat_one : ∀ (cs : List Value) (ps : List (List Int × Int)), (∀ c ∈ cs, c.oneCell' = true) → ∀ u ∈ flatJ cs ps, u.oneCell' = true
  | [], _, _, u, hu => by cases hu
  | c :: cs, [], _, u, hu => by cases hu
  | c :: cs, x :: ps, h, u, hu => by
    simp only [flatJ, List.mem_cons] at hu
    rcases hu with rfl | rfl | hu
    · exact h _ (by simp)
    · rfl
    · exact flat_one cs ps (fun c hc => h c (by simp [hc])) u hu
theorem k_one {lo hi : Nat} {w : World} {v : Value} {ps : List (List Int × Int)} {cs : List Value} (h : OwnK lo hi w v ps cs) : ∀ u ∈ flatJ cs ps, u.oneCell' = true := by
  refine flat_one cs ps fun c hc => ?_
  obtain ⟨i, hi, rfl⟩ := List.mem_iff_getElem.1 hc
  have := h.2.2.2.1 i (by rw [← h.2.2.1]; exact hi)
  rw [List.getD_eq_getElem?_getD, List.getElem?_eq_getElem hi] at this
  obtain ⟨p, c, e, _⟩ := this.slice
  rw [show cs[i] = _ from e]
  rfl
theorem k_below {lo hi : Nat} {w w' : World} {v : Value} {ps : List (List Int × Int)} {cs : List Value} (h : OwnK lo hi w v ps cs) (hb : Below w.heap.size w w') : OwnK lo hi w' v ps cs :=
  ⟨ownsRow_block h.1 (fun g hg => hb.block g (h.1.lt g hg).2), h.2.1, h.2.2.below hb⟩
theorem k_slice {lo hi : Nat} {w : World} {v : Value} {ps : List (List Int × Int)} {cs : List Value} (h : OwnK lo hi w v ps cs) : ∃ a c, v = .slice a ps.length c := by
  obtain ⟨a, c, e, _⟩ := (show OwnJ lo hi w v ps from ⟨cs, h⟩).slice
  exact ⟨a, c, e⟩


theorem cat2 (b cc c1 c2 : Nat) (p1 p2 : Option Addr) (ps1 ps2 : List (List Int × Int)) (cs1 cs2 : List Value) (lo mid hi : Nat) (w : World) (h1 : OwnK lo mid w (.slice p1 ps1.length c1) ps1 cs1) (h2 : OwnK mid hi w (.slice p2 ps2.length c2) ps2 cs2) (l1 : 1 ≤ ps1.length ∧ ps1.length ≤ 1000) (l2 : 1 ≤ ps2.length ∧ ps2.length ≤ 1000)
    (hb : b < w.heap.size) (z0 : w.cell? ⟨b, 0, none⟩ = some (.slice p1 ps1.length c1)) (z1 : w.cell? ⟨b, 1, none⟩ = some (.slice p2 ps2.length c2)) (hl : lo ≤ mid) (hh : mid ≤ hi) (hs : hi ≤ w.heap.size) :
    Calls Try.prog 90 #[.slice (some ⟨b, 0, none⟩) 2 cc] w (fun e w' => ∃ p q, e = .returned (.slice p (ps1 ++ ps2).length q) ∧ OwnK lo w'.heap.size w' (.slice p (ps1 ++ ps2).length q) (ps1 ++ ps2) (cs1 ++ cs2) ∧ Below w.heap.size w w') := by
  refine (concatN b 0 2 cc (fun k => if k = 0 then p1 else p2) (fun k => if k = 0 then ps1.length else ps2.length) (fun k => if k = 0 then c1 else c2) (fun k => if k = 0 then flatJ cs1 ps1 else flatJ cs2 ps2) w hb (by omega) (by simp [sumN]; omega) (fun k hk => by split <;> omega) (Lib.hid fun k hk => ?_)).mono ?_
  · have h3 : k = 0 ∨ k = 1 := by omega
    rcases h3 with rfl | rfl
    · exact ⟨by simpa using z0, k_cells h1, flatJ_length cs1 ps1 (k_len h1), k_one h1⟩
    · exact ⟨by simpa using z1, k_cells h2, flatJ_length cs2 ps2 (k_len h2), k_one h2⟩
  · rintro e w' ⟨v, rfl, ho, hB⟩
    have e1 : sumN (fun k => if k = 0 then ps1.length else ps2.length) 2 = (ps1 ++ ps2).length := by simp [sumN]
    have e2 : catV (fun k => if k = 0 then flatJ cs1 ps1 else flatJ cs2 ps2) 2 = flatJ (cs1 ++ cs2) (ps1 ++ ps2) := by rw [flat_app _ _ _ _ (k_len h1)]; simp [catV]
    rw [e1, e2] at ho
    have hk : OwnK lo w'.heap.size w' v (ps1 ++ ps2) (cs1 ++ cs2) := ⟨ownsRow_base ho (fun g hg => by have := ho.lt g hg; omega), fun g hg => (ho.lt g hg).2, by
      rw [List.map_append]
      exact (rows_app (h1.2.2.below hB) (h2.2.2.below hB) hl hh).mono (Nat.le_refl _) (Nat.le_trans hs hB.size)⟩
    obtain ⟨p, q, rfl⟩ := k_slice hk
    exact ⟨p, q, rfl, hk, hB⟩
/-- The second appended to the first. -/
theorem k_app {lo mid hi : Nat} {W W' : World} {v v2 v' : Value} {ps1 ps2 : List (List Int × Int)} {cs1 cs2 : List Value} (h1 : OwnK lo mid W v ps1 cs1) (h2 : OwnK mid hi W v2 ps2 cs2) (hl : lo ≤ mid) (hh : mid ≤ hi) (hs : hi ≤ W.heap.size)
    (hrow : W'.ownsRow lo 56 2 v' (ps1.length + ps2.length) (flatJ cs1 ps1 ++ flatJ cs2 ps2)) (hg : W.grownBy W' v.ownBlock) : OwnK lo W'.heap.size W' v' (ps1 ++ ps2) (cs1 ++ cs2) := by
  have r1 : RowsOf lo mid W' cs1 (ps1.map Prod.fst) := h1.2.2.keep fun g _ _ hgs ⟨i, hi, he⟩ => hg.block g hgs fun e => ownsRow_ne (h1.2.2.2.1 i hi).1 h1.1 (by decide) he e.symm
  have r2 : RowsOf mid hi W' cs2 (ps2.map Prod.fst) := h2.2.2.keep fun g _ _ hgs ⟨i, hi, he⟩ => hg.block g hgs fun e => ownsRow_ne (h2.2.2.2.1 i hi).1 h1.1 (by decide) he e.symm
  refine ⟨by rw [List.length_append, flat_app _ _ _ _ (k_len h1)]; exact hrow, fun g e => (hrow.lt g e).2, ?_⟩
  rw [List.map_append]
  exact (rows_app r1 r2 hl hh).mono (Nat.le_refl _) (Nat.le_trans hs hg.size)
end Go.Proofs.Ytkbcofgigfnfaab.widc
