/- Lists whose first numbers are changed one by one, in a row of the call's own: plain lemmas, no condition. -/
import Derived.Test.YtkbcofgigfnfaaaOwnG
namespace Go.Proofs.Ytkbcofgigfnfaaa.fill
open Go.RowKit own
set_option linter.unusedVariables false

/-- The list with the first k numbers as f says, the others as they were. -/
def pf (f : Nat → Int) (ss : List Int) (k : Nat) : List Int := (List.range ss.length).map fun i => if i < k then f i else ss.getD i 0
theorem pf_length (f : Nat → Int) (ss : List Int) (k : Nat) : (pf f ss k).length = ss.length := by simp [pf]
theorem pf_at (f : Nat → Int) (ss : List Int) (k i : Nat) (h : i < ss.length) : (pf f ss k)[i]? = some (if i < k then f i else ss.getD i 0) := by simp [pf, h]
theorem pf_zero (f : Nat → Int) (ss : List Int) : pf f ss 0 = ss := by
  apply List.ext_getElem?
  intro i
  by_cases h : i < ss.length
  · rw [pf_at _ _ _ _ h, if_neg (by omega), List.getElem?_eq_getElem h, List.getD_eq_getElem?_getD, List.getElem?_eq_getElem h]; rfl
  · rw [List.getElem?_eq_none (by rw [pf_length]; omega), List.getElem?_eq_none (by omega)]
theorem pf_set (f : Nat → Int) (ss : List Int) (k : Nat) (h : k < ss.length) : (pf f ss k).set k (f k) = pf f ss (k + 1) := by
  apply List.ext_getElem?
  intro i
  by_cases hi : i < ss.length
  · rw [List.getElem?_set, pf_at _ _ _ _ hi, pf_at _ _ _ _ hi]
    by_cases e : k = i
    · subst e
      rw [if_pos rfl, if_pos (by rw [pf_length]; exact hi), if_pos (by omega)]
    · rw [if_neg e]
      simp only [show (i < k + 1) ↔ (i < k) from by omega]
  · rw [List.getElem?_eq_none (by rw [List.length_set, pf_length]; omega), List.getElem?_eq_none (by rw [pf_length]; omega)]
theorem pf_all (f : Nat → Int) (ss : List Int) : pf f ss ss.length = (List.range ss.length).map f := by
  unfold pf
  apply List.map_congr_left
  intro i hi
  rw [List.mem_range] at hi
  rw [if_pos hi]
theorem pf_getD (f : Nat → Int) (ss : List Int) (k i : Nat) (h : i < ss.length) : (pf f ss k).getD i 0 = if i < k then f i else ss.getD i 0 := by
  rw [List.getD_eq_getElem?_getD, pf_at _ _ _ _ h]; rfl
theorem pf_cell {w : World} {C g cap : Nat} {f : Nat → Int} {ss : List Int} {k : Nat} (ho : w.ownsRow C 3 1 (.slice (some ⟨g, 0, none⟩) ss.length cap) ss.length ((pf f ss k).map (Value.int .i64))) (hk : k < ss.length) : w.cell? ⟨g, k, none⟩ = some (.int .i64 (ss.getD k 0)) := by
  rw [ho.cellAt k (by omega), List.getElem?_map, pf_at _ _ _ _ hk, if_neg (by omega)]; rfl
theorem pf_store {w : World} {C g cap : Nat} {f : Nat → Int} {ss : List Int} {k : Nat} (ho : w.ownsRow C 3 1 (.slice (some ⟨g, 0, none⟩) ss.length cap) ss.length ((pf f ss k).map (Value.int .i64))) (hk : k < ss.length) (V : Int) (hV : V = f k) :
    (w.setCell ⟨g, k, none⟩ (.int .i64 V)).ownsRow C 3 1 (.slice (some ⟨g, 0, none⟩) ss.length cap) ss.length ((pf f ss (k + 1)).map (Value.int .i64)) := by
  subst hV
  have := (ho.stored k (.int .i64 (f k))).1
  rw [← List.map_set, pf_set _ _ _ hk] at this
  exact this
theorem pf_cellN {w : World} {C g cap N : Nat} {f : Nat → Int} {ss : List Int} {k : Nat} (hN : ss.length = N) (ho : w.ownsRow C 3 1 (.slice (some ⟨g, 0, none⟩) N cap) N ((pf f ss k).map (Value.int .i64))) (hk : k < N) : w.cell? ⟨g, k, none⟩ = some (.int .i64 (ss.getD k 0)) := by
  subst hN
  exact pf_cell ho hk
theorem pf_storeN {w : World} {C g cap N : Nat} {f : Nat → Int} {ss : List Int} {k : Nat} (hN : ss.length = N) (ho : w.ownsRow C 3 1 (.slice (some ⟨g, 0, none⟩) N cap) N ((pf f ss k).map (Value.int .i64))) (hk : k < N) (V : Int) (hV : V = f k) :
    (w.setCell ⟨g, k, none⟩ (.int .i64 V)).ownsRow C 3 1 (.slice (some ⟨g, 0, none⟩) N cap) N ((pf f ss (k + 1)).map (Value.int .i64)) := by
  subst hN
  exact pf_store ho hk V hV
end Go.Proofs.Ytkbcofgigfnfaaa.fill
