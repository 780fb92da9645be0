/- A sample in a box B to which points and labels are appended: plain lemmas, no condition. -/
import Derived.Test.YtkbcofgigfnfaabSetCell
namespace Go.Proofs.Ytkbcofgigfnfaab.own
open Go.RowKit
set_option linter.unusedVariables false

/-- v and l, the points and labels in the box B, are made since lo (not B), the points themselves behind B. -/
def Out (lo B hi : Nat) (w : World) (v l : Value) (cs : List Value) (rows : List (List Int)) (zs : List Int) : Prop :=
  w.ownsRow lo 23 1 v rows.length cs ∧ (∀ g, v.ownBlock = some g → g ≠ B ∧ g < hi) ∧ RowsOf (B + 1) hi w cs rows ∧
    w.ownsRow lo 3 1 l zs.length (zs.map (Value.int .i64)) ∧ (∀ g, l.ownBlock = some g → g ≠ B ∧ g < hi) ∧ (∀ g, l.ownBlock = some g → ¬ Blk cs rows.length g)

section
variable {lo B hi : Nat} {w W W3 : World} {v l : Value} {cs : List Value} {rows : List (List Int)} {zs : List Int}
theorem Out.below (h : Out lo B hi w v l cs rows zs) (hb : Below w.heap.size w W) : Out lo B hi W v l cs rows zs :=
  ⟨ownsRow_block h.1 fun g hg => hb.block g (h.1.lt g hg).2, h.2.1, h.2.2.1.below hb, ownsRow_block h.2.2.2.1 fun g hg => hb.block g (h.2.2.2.1.lt g hg).2, h.2.2.2.2⟩
theorem Out.set (h : Out lo B hi w v l cs rows zs) (o : Nat) (u : Value) : Out lo B hi (w.setCell ⟨B, o, none⟩ u) v l cs rows zs :=
  ⟨ownsRow_block h.1 fun g hg => Below.heap_setCell _ _ _ _ (h.2.1 g hg).1, h.2.1, h.2.2.1.keep fun g k1 _ _ _ => Below.heap_setCell _ _ _ _ (by simp; omega), ownsRow_block h.2.2.2.1 fun g hg => Below.heap_setCell _ _ _ _ (h.2.2.2.2.1 g hg).1, h.2.2.2.2⟩
theorem Out.toS (h : Out lo B hi w v l cs rows zs) (hl : lo ≤ B + 1) : OwnS lo hi w v l rows zs :=
  ⟨cs, ⟨h.1, fun g e => (h.2.1 g e).2, h.2.2.1.mono hl (Nat.le_refl _)⟩, ⟨h.2.2.2.1, fun g e => (h.2.2.2.2.1 g e).2⟩, h.2.2.2.2.2⟩

theorem grown_block {O : Obj} {row : Option Nat} (hg : (W.alloc O).grownBy W3 row) (g : Nat) (h1 : g < W.heap.size) (h2 : row ≠ some g) : W3.heap[g]? = W.heap[g]? := by
  rw [hg.block g (by simp; omega) (fun e => h2 e.symm), Below.heap_alloc W O g h1]

theorem Out.row {O : Obj} {c : Value} {r : List Int} {g' cap : Nat} (h : Out lo B hi W v l cs rows zs) (hc : OwnI hi W.heap.size W c r) (hhi : hi ≤ W.heap.size) (hB : B < hi) (hg : (W.alloc O).grownBy W3 v.ownBlock)
    (hown : W3.ownsRow lo 23 1 (.slice (some ⟨g', 0, none⟩) (rows.length + 1) cap) (rows.length + 1) (cs ++ [c])) (hat : v.ownBlock = some g' ∨ g' = W.heap.size + 1) (hlt : g' < W3.heap.size) :
    Out lo B W3.heap.size W3 (.slice (some ⟨g', 0, none⟩) (rows.length + 1) cap) l (cs ++ [c]) (rows ++ [r]) zs := by
  have hs : W.heap.size ≤ W3.heap.size := Nat.le_trans (by simp) hg.size
  obtain ⟨h1, h2, h3, h4, h5, h6⟩ := h
  have hsn := h3.snoc hc (by omega) hhi
  refine ⟨by simpa using hown, fun g e => ?_, ?_, ownsRow_block h4 fun g hg' => grown_block hg g (h4.lt g hg').2 (ownsRow_ne h4 h1 (by decide) hg'), fun g e => ⟨(h5 g e).1, by have := (h5 g e).2; omega⟩, fun g e hb => ?_⟩
  · obtain rfl : g' = g := by simpa [Value.ownBlock] using e
    refine ⟨fun e2 => ?_, hlt⟩
    rcases hat with ha | ha
    · exact (h2 _ ha).1 e2
    · omega
  · refine (hsn.keep fun g hl hh hgs hbl => grown_block hg g hgs (fun e => ?_)).mono (Nat.le_refl _) hs
    obtain ⟨i, hi', hb⟩ := hbl
    exact ownsRow_ne (hsn.2.1 i hi').1 h1 (by decide) hb e
  · obtain ⟨i, hi', hb2⟩ := hb
    by_cases e2 : i < rows.length
    · rw [getD_snoc_lt _ _ _ _ (by rw [h3.1]; exact e2)] at hb2
      exact h6 g e ⟨i, e2, hb2⟩
    · have : i = rows.length := by simp at hi'; omega
      rw [getD_snoc_eq _ _ _ _ (by rw [h3.1]; exact this)] at hb2
      have k1 := hc.lt hb2
      have k2 := (h5 g e).2
      omega

theorem Out.label {O : Obj} {z : Int} {g' cap : Nat} (h : Out lo B hi W v l cs rows zs) (hhi : hi ≤ W.heap.size) (hB : B < hi) (hg : (W.alloc O).grownBy W3 l.ownBlock)
    (hown : W3.ownsRow lo 3 1 (.slice (some ⟨g', 0, none⟩) (zs.length + 1) cap) (zs.length + 1) (zs.map (Value.int .i64) ++ [.int .i64 z])) (hat : l.ownBlock = some g' ∨ g' = W.heap.size + 1) (hlt : g' < W3.heap.size) :
    Out lo B W3.heap.size W3 v (.slice (some ⟨g', 0, none⟩) (zs.length + 1) cap) cs rows (zs ++ [z]) := by
  have hs : W.heap.size ≤ W3.heap.size := Nat.le_trans (by simp) hg.size
  obtain ⟨h1, h2, h3, h4, h5, h6⟩ := h
  refine ⟨ownsRow_block h1 fun g hg' => grown_block hg g (h1.lt g hg').2 (ownsRow_ne h1 h4 (by decide) hg'), fun g e => ⟨(h2 g e).1, by have := (h2 g e).2; omega⟩, (h3.keep fun g hl hh hgs hbl => grown_block hg g hgs (fun e => ?_)).mono (Nat.le_refl _) (by omega), by simpa using hown, fun g e => ?_, fun g e hb => ?_⟩
  · obtain ⟨i, hi', hb⟩ := hbl
    exact h6 g e ⟨i, hi', hb⟩
  · obtain rfl : g' = g := by simpa [Value.ownBlock] using e
    refine ⟨fun e2 => ?_, hlt⟩
    rcases hat with ha | ha
    · exact (h5 _ ha).1 e2
    · omega
  · obtain rfl : g' = g := by simpa [Value.ownBlock] using e
    rcases hat with ha | ha
    · exact h6 _ ha hb
    · obtain ⟨i, hi', hb2⟩ := hb
      have := (h3.2.1 i hi').lt hb2
      omega
end
end Go.Proofs.Ytkbcofgigfnfaab.own
