/- Lists of integers in memory, as a slice reads them: plain lemmas, no condition. -/
import Derived.WalkKit
import Derived.WalkSmall
import Derived.Lib.Hide
import Derived.Maps.AppendAt
namespace Go.Proofs.Ytkbcofgigfnfaab.ints
open Go.RowKit

/-- The slice with this address reads as these integers in the world w. -/
def Reads (q : IntKind) (w : World) (a : Option Addr) (zs : List Int) : Prop :=
  zs = [] ∨ ∃ b off, a = some ⟨b, off, none⟩ ∧ b < w.heap.size ∧ ∀ i, i < zs.length → w.cell? ⟨b, off + i, none⟩ = some (.int q (zs.getD i 0))

theorem Reads.at {q : IntKind} {w : World} {a : Option Addr} {zs : List Int} (h : Reads q w a zs) {k : Nat} (hk : k < zs.length) :
    ∃ b off, a = some ⟨b, off, none⟩ ∧ b < w.heap.size ∧ w.cell? ⟨b, off + k, none⟩ = some (.int q (zs.getD k 0)) := by
  rcases h with rfl | ⟨b, off, e, hb, hc⟩
  · simp at hk
  · exact ⟨b, off, e, hb, hc k hk⟩

theorem Reads.below {q : IntKind} {w w' : World} {a : Option Addr} {zs : List Int} (h : Reads q w a zs) (hb : Below w.heap.size w w') : Reads q w' a zs := by
  rcases h with rfl | ⟨b, off, e, hlt, hc⟩
  · exact .inl rfl
  · exact .inr ⟨b, off, e, Nat.lt_of_lt_of_le hlt hb.size, fun i hi => (hb.cell (p := ⟨b, off + i, none⟩) hlt).trans (hc i hi)⟩

/-- The slice lies below a block, if it lies anywhere. -/
def Low (B : Nat) (a : Option Addr) (n : Nat) : Prop := n = 0 ∨ ∃ b off, a = some ⟨b, off, none⟩ ∧ b < B

theorem Reads.low {q : IntKind} {w : World} {a : Option Addr} {zs : List Int} (h : Reads q w a zs) : Low w.heap.size a zs.length := by
  rcases h with rfl | ⟨b, off, e, hb, _⟩
  · exact .inl rfl
  · exact .inr ⟨b, off, e, hb⟩

theorem Low.mono {B C : Nat} {a : Option Addr} {n : Nat} (h : Low B a n) (hBC : B ≤ C) : Low C a n := by
  rcases h with h | ⟨b, off, e, hb⟩
  · exact .inl h
  · exact .inr ⟨b, off, e, by omega⟩

theorem Reads.low_below {q : IntKind} {B : Nat} {w w' : World} {a : Option Addr} {zs : List Int} (h : Reads q w a zs) (hl : Low B a zs.length) (hb : Below B w w') : Reads q w' a zs := by
  rcases h with rfl | ⟨b, off, e, hlt, hc⟩
  · exact .inl rfl
  · rcases hl with hl | ⟨b', off', e', hlt'⟩
    · exact .inl (List.length_eq_zero_iff.1 hl)
    · rw [e] at e'
      cases e'
      exact .inr ⟨b, off, e, Nat.lt_of_lt_of_le hlt hb.size, fun i hi => (hb.cell (p := ⟨b, off + i, none⟩) hlt').trans (hc i hi)⟩

theorem below_of_grown {w w' : World} {g : Nat} (h : w.grownBy w' (some g)) (B : Nat) (hB : B ≤ g) (hw : B ≤ w.heap.size) : Below B w w' :=
  (Below.refl B w).grown h hw (fun k e => by cases e; exact hB)

theorem below_drewN {B : Nat} {w wr : World} (h : Below B w wr) (n : Nat) : Below B w (wr.drewN n) := ⟨h.os, h.tape, h.output, h.size, h.block⟩
theorem grown_drewN {w w' : World} {row : Option Nat} (h : w.grownBy w' row) (n : Nat) : w.grownBy (w'.drewN n) row := ⟨h.os, h.tape, h.output, h.size, h.block⟩
theorem grown_set {w w' : World} {g o : Nat} (h : w.grownBy w' (some g)) (v : Value) : w.grownBy (w'.setCell ⟨g, o, none⟩ v) (some g) :=
  World.grownBy.trans h ⟨rfl, rfl, rfl, by simp [World.setCell], fun k _ hk => Below.heap_setCell _ _ _ _ (fun e => hk (by rw [e]))⟩
end Go.Proofs.Ytkbcofgigfnfaab.ints
