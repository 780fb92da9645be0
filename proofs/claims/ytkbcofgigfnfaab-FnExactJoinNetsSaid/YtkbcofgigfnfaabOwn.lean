/- What a call has made and owns: lists of integers and lists of such lists in an interval of blocks; plain lemmas, no condition. -/
import Derived.Test.YtkbcofgigfnfaabInts
import Derived.Test.YtkbcofgigfnfaabGrid
namespace Go.Proofs.Ytkbcofgigfnfaab.own
open Go.RowKit
set_option linter.unusedVariables false

/-- Old cells and old marks read as they did: the two rules that a walk uses. -/
theorem bcell {W w1 : World} (hb : Below W.heap.size W w1) : (∀ b o, b < W.heap.size → w1.cell? ⟨b, o, none⟩ = W.cell? ⟨b, o, none⟩) ∧ (∀ b o, b < W.heap.size → w1.frozen? ⟨b, o, none⟩ = W.frozen? ⟨b, o, none⟩) :=
  ⟨fun b o h => hb.cell (p := ⟨b, o, none⟩) h, fun b o h => hb.frozen (p := ⟨b, o, none⟩) h⟩

/-- From lo on and below hi a world may have turned; all else reads as it did. -/
structure Only (lo hi : Nat) (w w' : World) : Prop where
  os : w'.os = w.os
  tape : w'.tape = w.tape
  output : w'.output = w.output
  size : w.heap.size ≤ w'.heap.size
  block : ∀ k, k < w.heap.size → (k < lo ∨ hi ≤ k) → w'.heap[k]? = w.heap[k]?

theorem Only.refl (lo hi : Nat) (w : World) : Only lo hi w w := ⟨rfl, rfl, rfl, Nat.le_refl _, fun _ _ _ => rfl⟩
theorem Only.trans {lo hi : Nat} {a b c : World} (h : Only lo hi a b) (k : Only lo hi b c) : Only lo hi a c :=
  ⟨k.os.trans h.os, k.tape.trans h.tape, k.output.trans h.output, Nat.le_trans h.size k.size, fun i hi ho => (k.block i (Nat.lt_of_lt_of_le hi h.size) ho).trans (h.block i hi ho)⟩
theorem Only.mono {lo hi lo' hi' : Nat} {a b : World} (h : Only lo hi a b) (h1 : lo' ≤ lo) (h2 : hi ≤ hi') : Only lo' hi' a b :=
  ⟨h.os, h.tape, h.output, h.size, fun k hk ho => h.block k hk (by omega)⟩
theorem Only.of_below {lo hi : Nat} {a b : World} (h : Below a.heap.size a b) : Only lo hi a b :=
  ⟨h.os, h.tape, h.output, h.size, fun k hk _ => h.block k hk⟩
theorem Only.of_grown {lo hi : Nat} {a b : World} {row : Option Nat} (h : a.grownBy b row) (hr : ∀ g, row = some g → lo ≤ g ∧ g < hi) : Only lo hi a b :=
  ⟨h.os, h.tape, h.output, h.size, fun k hk ho => h.block k hk (fun e => by have := hr k e.symm; omega)⟩
theorem Only.below {lo hi : Nat} {a b : World} (h : Only lo hi a b) (hl : lo ≤ a.heap.size) : Below lo a b :=
  ⟨h.os, h.tape, h.output, h.size, fun k hk => h.block k (by omega) (.inl hk)⟩
theorem Only.drewN {lo hi : Nat} {a b : World} (h : Only lo hi a b) (n : Nat) : Only lo hi a (b.drewN n) := ⟨h.os, h.tape, h.output, h.size, h.block⟩

/-- Blocks outside of S read as they did. -/
structure Stir (S : Nat → Prop) (w w' : World) : Prop where
  os : w'.os = w.os
  tape : w'.tape = w.tape
  output : w'.output = w.output
  size : w.heap.size ≤ w'.heap.size
  block : ∀ k, k < w.heap.size → ¬ S k → w'.heap[k]? = w.heap[k]?

theorem Stir.refl (S : Nat → Prop) (w : World) : Stir S w w := ⟨rfl, rfl, rfl, Nat.le_refl _, fun _ _ _ => rfl⟩
theorem Stir.trans {S : Nat → Prop} {a b c : World} (h : Stir S a b) (k : Stir S b c) : Stir S a c :=
  ⟨k.os.trans h.os, k.tape.trans h.tape, k.output.trans h.output, Nat.le_trans h.size k.size, fun i hi ho => (k.block i (Nat.lt_of_lt_of_le hi h.size) ho).trans (h.block i hi ho)⟩
theorem Stir.mono {S S' : Nat → Prop} {a b : World} (h : Stir S a b) (hS : ∀ k, S k → S' k) : Stir S' a b :=
  ⟨h.os, h.tape, h.output, h.size, fun k hk ho => h.block k hk fun e => ho (hS k e)⟩
theorem Stir.of_grown {S : Nat → Prop} {a b : World} {row : Option Nat} (h : a.grownBy b row) (hr : ∀ g, row = some g → S g) : Stir S a b :=
  ⟨h.os, h.tape, h.output, h.size, fun k hk ho => h.block k hk fun e => ho (hr k e.symm)⟩
theorem Stir.of_below {S : Nat → Prop} {a b : World} (h : Below a.heap.size a b) : Stir S a b :=
  ⟨h.os, h.tape, h.output, h.size, fun k hk _ => h.block k hk⟩
theorem Stir.only {S : Nat → Prop} {lo hi : Nat} {a b : World} (h : Stir S a b) (hS : ∀ k, S k → lo ≤ k ∧ k < hi) : Only lo hi a b :=
  ⟨h.os, h.tape, h.output, h.size, fun k hk ho => h.block k hk fun e => by have := hS k e; omega⟩

/-- A slice of integers that lies in its own block, from lo on and below hi. -/
def OwnI (lo hi : Nat) (w : World) (v : Value) (zs : List Int) : Prop :=
  w.ownsRow lo 3 1 v zs.length (zs.map (Value.int .i64)) ∧ ∀ g, v.ownBlock = some g → g < hi

theorem OwnI.lt {lo hi : Nat} {w : World} {v : Value} {zs : List Int} (h : OwnI lo hi w v zs) {g : Nat} (hg : v.ownBlock = some g) : lo ≤ g ∧ g < hi ∧ g < w.heap.size :=
  ⟨(h.1.lt g hg).1, h.2 g hg, (h.1.lt g hg).2⟩

theorem OwnI.of {lo : Nat} {w : World} {v : Value} {zs : List Int} (h : w.ownsRow lo 3 1 v zs.length (zs.map (Value.int .i64))) : OwnI lo w.heap.size w v zs :=
  ⟨h, fun g hg => (h.lt g hg).2⟩

theorem OwnI.nil (lo hi : Nat) (w : World) : OwnI lo hi w (.slice none 0 0) [] := ⟨World.ownsRow_nil w lo _ 1, fun g hg => by simp [Value.ownBlock] at hg⟩

theorem ownsRow_base {w : World} {e : TypeId} {size lo lo' : Nat} {v : Value} {n : Nat} {xs : List Value} (h : w.ownsRow lo e size v n xs) (hl : ∀ g, v.ownBlock = some g → lo' ≤ g) : w.ownsRow lo' e size v n xs := by
  refine ⟨h.1, ?_⟩
  rcases h.2 with h2 | ⟨g, cap, cur, rfl, hb, r⟩
  · exact .inl h2
  · exact .inr ⟨g, cap, cur, rfl, hl g rfl, r⟩

theorem OwnI.mono {lo hi lo' hi' : Nat} {w : World} {v : Value} {zs : List Int} (h : OwnI lo hi w v zs) (h1 : lo' ≤ lo) (h2 : hi ≤ hi') : OwnI lo' hi' w v zs :=
  ⟨ownsRow_base h.1 (fun g hg => Nat.le_trans h1 (h.lt hg).1), fun g hg => Nat.lt_of_lt_of_le (h.2 g hg) h2⟩

/-- Narrow to the one block. -/
theorem OwnI.narrow {lo hi lo' hi' : Nat} {w : World} {v : Value} {zs : List Int} (h : OwnI lo hi w v zs) (hl : ∀ g, v.ownBlock = some g → lo' ≤ g ∧ g < hi') : OwnI lo' hi' w v zs :=
  ⟨ownsRow_base h.1 (fun g hg => (hl g hg).1), fun g hg => (hl g hg).2⟩

theorem ownsRow_block {w w' : World} {e : TypeId} {size lo : Nat} {v : Value} {n : Nat} {xs : List Value} (h : w.ownsRow lo e size v n xs) (hb : ∀ g, v.ownBlock = some g → w'.heap[g]? = w.heap[g]?) : w'.ownsRow lo e size v n xs := by
  refine ⟨h.1, ?_⟩
  rcases h.2 with h2 | ⟨g, cap, cur, rfl, hl, hh, r⟩
  · exact .inl h2
  · exact .inr ⟨g, cap, cur, rfl, hl, (hb g rfl).trans hh, r⟩

theorem OwnI.block {lo hi : Nat} {w w' : World} {v : Value} {zs : List Int} (h : OwnI lo hi w v zs) (hb : ∀ g, v.ownBlock = some g → w'.heap[g]? = w.heap[g]?) : OwnI lo hi w' v zs := ⟨ownsRow_block h.1 hb, h.2⟩

theorem OwnI.only {lo hi lo' hi' : Nat} {w w' : World} {v : Value} {zs : List Int} (h : OwnI lo hi w v zs) (ho : Only lo' hi' w w') (hd : hi ≤ lo' ∨ hi' ≤ lo) : OwnI lo hi w' v zs :=
  h.block fun g hg => by have := h.lt hg; exact ho.block g this.2.2 (by omega)

theorem OwnI.below {lo hi : Nat} {w w' : World} {v : Value} {zs : List Int} (h : OwnI lo hi w v zs) (hb : Below w.heap.size w w') : OwnI lo hi w' v zs :=
  h.block fun g hg => hb.block g (h.lt hg).2.2

theorem OwnI.set {lo hi : Nat} {w : World} {v : Value} {zs : List Int} (h : OwnI lo hi w v zs) {a : Addr} (ha : a.block < lo) (u : Value) : OwnI lo hi (w.setCell a u) v zs :=
  h.block fun g hg => Below.heap_setCell _ _ _ _ (by have := h.lt hg; omega)
theorem size_set (w : World) (a : Addr) (u : Value) : (w.setCell a u).heap.size = w.heap.size := by simp [World.setCell]

/-- What it is as a value. -/
theorem OwnI.slice {lo hi : Nat} {w : World} {v : Value} {zs : List Int} (h : OwnI lo hi w v zs) : ∃ a c, v = .slice a zs.length c ∧ ints.Reads .i64 w a zs ∧ zs.length ≤ c ∧ zs.length ≤ maxLen := by
  rcases h.1.2 with ⟨rfl, h0⟩ | ⟨g, cap, cur, rfl, hl, hh, hn, hm, hs, ht⟩
  · have : zs = [] := List.length_eq_zero_iff.1 h0
    subst this
    exact ⟨none, 0, rfl, .inl rfl, Nat.le_refl _, by simp⟩
  · refine ⟨some ⟨g, 0, none⟩, cap, rfl, .inr ⟨g, 0, rfl, (Array.getElem?_eq_some_iff.1 hh).1, fun i hi => ?_⟩, hn, by omega⟩
    have hx := h.1.cells (g := g) rfl i (.int .i64 (zs.getD i 0)) (by simp [List.getElem?_eq_getElem hi])
    rw [Go.WideShapes.add_plain] at hx
    exact hx
end Go.Proofs.Ytkbcofgigfnfaab.own
