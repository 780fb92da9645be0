/- Nets that are made of what calls have made: plain lemmas, no condition. -/
import Derived.Test.YtoephhhofkmgjaaNetL
namespace Go.Proofs.Ytoephhhofkmgjaa.netm
open Go.RowKit own
set_option linter.unusedVariables false

/-- A list of one gate. -/
theorem gate_made {lo hi : Nat} {w : World} {v : Value} {ws : List Int} (h : OwnI lo hi w v ws) (b : Int) (hl : lo ≤ w.heap.size) (hh : hi ≤ w.heap.size + 1) :
    OwnJ lo (w.heap.size + 1) (w.alloc (.cells #[v, .int .i64 b] 86)) (.slice (some ⟨w.heap.size, 0, none⟩) 1 1) [(ws, b)] := by
  have h1 : OwnI lo (w.heap.size + 1) (w.alloc (.cells #[v, .int .i64 b] 86)) v ws := (h.below (below_alloc _ _)).mono (Nat.le_refl _) hh
  refine ⟨[v], ?_, fun g hg => ?_, rfl, fun i hi => ?_, fun i j hij hj => ?_⟩
  · exact World.ownsRow_lit (base := lo) (e := 86) (size := 2) w #[v, .int .i64 b] 1 hl (by unfold maxLen; omega) rfl
  · simp [Value.ownBlock] at hg; omega
  · obtain rfl : i = 0 := by simp at hi; omega
    exact h1
  · simp at hj; omega
/-- A list of two gates. -/
theorem gates_made {lo mid hi : Nat} {w : World} {u v : Value} {us vs : List Int} (h : OwnI lo mid w u us) (h2 : OwnI mid hi w v vs) (b d : Int) (hl : lo ≤ mid) (hm : mid ≤ hi) (hh : hi ≤ w.heap.size + 1) (hw : lo ≤ w.heap.size) :
    OwnJ lo (w.heap.size + 1) (w.alloc (.cells #[u, .int .i64 b, v, .int .i64 d] 86)) (.slice (some ⟨w.heap.size, 0, none⟩) 2 2) [(us, b), (vs, d)] := by
  have h1 : OwnI lo mid (w.alloc (.cells #[u, .int .i64 b, v, .int .i64 d] 86)) u us := h.below (below_alloc _ _)
  have h3 : OwnI mid hi (w.alloc (.cells #[u, .int .i64 b, v, .int .i64 d] 86)) v vs := h2.below (below_alloc _ _)
  have r0 : RowsOf lo lo (w.alloc (.cells #[u, .int .i64 b, v, .int .i64 d] 86)) [] [] := RowsOf.nil _ _ _
  have r1 := r0.snoc h1 (Nat.le_refl _) hl
  have r2 := r1.snoc h3 hl hm
  refine ⟨[u, v], ?_, fun g hg => ?_, r2.mono (Nat.le_refl _) hh⟩
  · exact World.ownsRow_lit (base := lo) (e := 86) (size := 2) w #[u, .int .i64 b, v, .int .i64 d] 2 hw (by unfold maxLen; omega) rfl
  · simp [Value.ownBlock] at hg; omega
/-- Layers laid into a new list. -/
theorem lays_made {lo hi : Nat} {w : World} {vs : List Value} {css : List (List Value)} {ls : List (List (List Int × Int))} (h : LaysOf lo hi w vs css ls) (hl : lo ≤ w.heap.size) (hh : hi ≤ w.heap.size + 1) (hn : ls.length ≤ maxLen) :
    OwnL lo (w.heap.size + 1) (w.alloc (.cells vs.toArray 63)) (.slice (some ⟨w.heap.size, 0, none⟩) ls.length ls.length) ls :=
  ⟨vs, css, World.ownsRow_lit (base := lo) (e := 63) (size := 1) w vs.toArray ls.length hl hn (by simp [h.1]), fun g hg => by simp [Value.ownBlock] at hg; omega, (h.below (below_alloc _ _)).mono (Nat.le_refl _) hh⟩
theorem lays_one {lo hi : Nat} {w : World} {v : Value} {l : List (List Int × Int)} (h : OwnJ lo hi w v l) (hl : lo ≤ hi) (hh : hi ≤ w.heap.size) :
    OwnL lo (w.heap.size + 1) (w.alloc (.cells #[v] 63)) (.slice (some ⟨w.heap.size, 0, none⟩) 1 1) [l] := by
  obtain ⟨cs, h⟩ := h
  have r1 := (LaysOf.nil lo lo w).snoc h (Nat.le_refl _) hl
  exact lays_made r1 (by omega) (by omega) (by unfold maxLen; simp)
theorem lays_two {lo mid hi : Nat} {w : World} {u v : Value} {l m : List (List Int × Int)} (h : OwnJ lo mid w u l) (h2 : OwnJ mid hi w v m) (hl : lo ≤ mid) (hm : mid ≤ hi) (hh : hi ≤ w.heap.size) :
    OwnL lo (w.heap.size + 1) (w.alloc (.cells #[u, v] 63)) (.slice (some ⟨w.heap.size, 0, none⟩) 2 2) [l, m] := by
  obtain ⟨cs, h⟩ := h
  obtain ⟨ds, h2⟩ := h2
  have r1 := (LaysOf.nil lo lo w).snoc h (Nat.le_refl _) hl
  have r2 := r1.snoc h2 hl hm
  exact lays_made r2 (by omega) (by omega) (by unfold maxLen; simp)
/-- A net of one gate. -/
theorem net_made {lo hi : Nat} {w : World} {v : Value} {ws : List Int} (h : OwnI lo hi w v ws) (b : Int) (hl : lo ≤ w.heap.size) (hh : hi ≤ w.heap.size + 1) :
    OwnL lo (w.heap.size + 1 + 1) ((w.alloc (.cells #[v, .int .i64 b] 86)).alloc (.cells #[.slice (some ⟨w.heap.size, 0, none⟩) 1 1] 63)) (.slice (some ⟨w.heap.size + 1, 0, none⟩) 1 1) [[(ws, b)]] := by
  have h1 := gate_made h b hl hh
  have e : (w.alloc (.cells #[v, .int .i64 b] 86)).heap.size = w.heap.size + 1 := by simp
  have h2 := lays_one h1 (by omega) (by rw [e]; exact Nat.le_refl _)
  rw [e] at h2
  exact h2
end Go.Proofs.Ytoephhhofkmgjaa.netm
