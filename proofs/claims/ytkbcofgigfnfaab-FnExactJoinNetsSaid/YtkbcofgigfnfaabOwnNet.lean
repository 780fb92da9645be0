/- The model's copy of a net. -/
import Derived.Test.YtkbcofgigfnfaabNetB
import Derived.Test.YtkbcofgigfnfaabOwn0
import Derived.Test.YtkbcofgigfnfaabOutBox
import Derived.Test.YtkbcofgigfnfaabStepA
import Derived.Test.YtkbcofgigfnfaabStmp
import Derived.Deep.RegionHeld3
import Derived.Deep.DrawnRows
import Derived.Deep.AppendLies
import Derived.BigQuiet
namespace Go.Proofs.Ytkbcofgigfnfaab.ownnet
open Go.RowKit own pp nums own0 stepa stmp
set_option linter.unusedVariables false
set_option linter.unusedSimpArgs false

/-- v, the layers in the box B, is made since lo (not B), the layers themselves behind B. -/
def OutL (lo B hi : Nat) (w : World) (v : Value) (vs : List Value) (css : List (List Value)) (ls : List (List (List Int × Int))) : Prop :=
  w.ownsRow lo 110 1 v ls.length vs ∧ (∀ g, v.ownBlock = some g → g ≠ B ∧ g < hi) ∧ LaysOf (B + 1) hi w vs css ls
theorem OutL.below {lo B hi : Nat} {w W : World} {v : Value} {vs : List Value} {css : List (List Value)} {ls : List (List (List Int × Int))} (h : OutL lo B hi w v vs css ls) (hb : Below w.heap.size w W) : OutL lo B hi W v vs css ls :=
  ⟨ownsRow_block h.1 fun g hg => hb.block g (h.1.lt g hg).2, h.2.1, h.2.2.below hb⟩
theorem OutL.set {lo B hi : Nat} {w : World} {v : Value} {vs : List Value} {css : List (List Value)} {ls : List (List (List Int × Int))} (h : OutL lo B hi w v vs css ls) (o : Nat) (u : Value) : OutL lo B hi (w.setCell ⟨B, o, none⟩ u) v vs css ls :=
  ⟨ownsRow_block h.1 fun g hg => Below.heap_setCell _ _ _ _ (h.2.1 g hg).1, h.2.1, h.2.2.keep fun g hf => Below.heap_setCell _ _ _ _ (by have := h.2.2.foot hf; show g ≠ B; omega)⟩
theorem OutL.toL {lo B hi : Nat} {w : World} {v : Value} {vs : List Value} {css : List (List Value)} {ls : List (List (List Int × Int))} (h : OutL lo B hi w v vs css ls) (hl : lo ≤ B + 1) : OwnLK lo hi w v ls vs css :=
  ⟨h.1, fun g e => (h.2.1 g e).2, h.2.2.mono hl (Nat.le_refl _)⟩
theorem OutL.row {lo B hi : Nat} {W W3 : World} {v : Value} {vs : List Value} {css : List (List Value)} {ls : List (List (List Int × Int))} {O : Obj} {c : Value} {cs : List Value} {ps : List (List Int × Int)} {g' cap : Nat} (h : OutL lo B hi W v vs css ls) (hc : OwnK hi W.heap.size W c ps cs) (hhi : hi ≤ W.heap.size) (hB : B < hi)
    (hg : (W.alloc O).grownBy W3 v.ownBlock) (hown : W3.ownsRow lo 110 1 (.slice (some ⟨g', 0, none⟩) (ls.length + 1) cap) (ls.length + 1) (vs ++ [c])) (hat : v.ownBlock = some g' ∨ g' = W.heap.size + 1) (hlt : g' < W3.heap.size) :
    OutL lo B W3.heap.size W3 (.slice (some ⟨g', 0, none⟩) (ls.length + 1) cap) (vs ++ [c]) (css ++ [cs]) (ls ++ [ps]) := by
  have hs : W.heap.size ≤ W3.heap.size := Nat.le_trans (by simp) hg.size
  obtain ⟨h1, h2, h3⟩ := h
  have hsn := h3.snoc hc (by omega) hhi
  refine ⟨by simpa using hown, fun g e => ?_, (hsn.keep fun g hf => ?_).mono (Nat.le_refl _) hs⟩
  · obtain rfl : g' = g := by simpa [Value.ownBlock] using e
    refine ⟨fun e2 => ?_, hlt⟩
    rcases hat with ha | ha
    · exact (h2 _ ha).1 e2
    · omega
  · obtain ⟨i, hi', hb⟩ := hf
    exact grown_block hg g ((hsn.2.2.1 i hi').foot hb).2.2 (fun e => (hsn.2.2.1 i hi').apart h1 e hb)
theorem OwnLK.set {lo hi : Nat} {w : World} {v : Value} {ls : List (List (List Int × Int))} {vs : List Value} {css : List (List Value)} (h : OwnLK lo hi w v ls vs css) {a : Addr} (ha : a.block < lo) (u : Value) : OwnLK lo hi (w.setCell a u) v ls vs css :=
  ⟨ownsRow_block h.1 fun g hg => Below.heap_setCell _ _ _ _ (by have := (h.1.lt g hg).1; omega), h.2.1, h.2.2.keep fun g hf => Below.heap_setCell _ _ _ _ (by have := h.2.2.foot hf; omega)⟩
theorem OwnLK.mono {lo hi lo' hi' : Nat} {w : World} {v : Value} {ls : List (List (List Int × Int))} {vs : List Value} {css : List (List Value)} (h : OwnLK lo hi w v ls vs css) (h1 : lo' ≤ lo) (h2 : hi ≤ hi') : OwnLK lo' hi' w v ls vs css :=
  ⟨ownsRow_base h.1 (fun g hg => Nat.le_trans h1 (h.1.lt g hg).1), fun g hg => Nat.lt_of_lt_of_le (h.2.1 g hg) h2, h.2.2.mono h1 h2⟩
theorem infoJ : (Try.prog.info? 110).map (fun i => (i.zero, i.size, i.bytes)) = some (some (.slice none 0 0), 1, 24) := by kernel_rfl
theorem take_len {α : Type} (xs : List α) (k : Nat) (h : k ≤ xs.length) : (xs.take k).length = k := by rw [List.length_take]; omega
/-- What it returns: a net that it made. -/
def MadeN (ls : List (List (List Int × Int))) (n : Int) (w : World) (e : Ending) (w' : World) : Prop := ∃ p q vs css, e = .returned (.agg #[.int .i64 n, .slice p ls.length q]) ∧ OwnLK w.heap.size w'.heap.size w' (.slice p ls.length q) ls vs css ∧ Below w.heap.size w w'
end Go.Proofs.Ytkbcofgigfnfaab.ownnet
