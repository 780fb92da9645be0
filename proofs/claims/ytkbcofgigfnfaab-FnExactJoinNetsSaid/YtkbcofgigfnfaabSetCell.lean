/- A cell of another block than the one that is stored to: a plain lemma, no condition. -/
import Derived.Test.YtkbcofgigfnfaabOwnG
namespace Go.Proofs.Ytkbcofgigfnfaab.own
open Go.RowKit

theorem cell_set {w : World} {b o : Nat} {x : Value} (h : w.cell? ⟨b, o, none⟩ = some x) {a : Addr} (hb : b ≠ a.block) (u : Value) : (w.setCell a u).cell? ⟨b, o, none⟩ = some x :=
  (World.cell?_of_block (Below.heap_setCell _ _ _ _ hb)).trans h
theorem fro_set {w : World} {b o : Nat} (h : w.frozen? ⟨b, o, none⟩ = false) {a : Addr} (hb : b ≠ a.block) (u : Value) : (w.setCell a u).frozen? ⟨b, o, none⟩ = false :=
  (World.frozen?_of_block (Below.heap_setCell _ _ _ _ hb)).trans h
theorem OwnS.set {lo hi : Nat} {w : World} {p l : Value} {rows : List (List Int)} {zs : List Int} (h : OwnS lo hi w p l rows zs) {a : Addr} (ha : a.block < lo) (u : Value) : OwnS lo hi (w.setCell a u) p l rows zs := by
  obtain ⟨cs, h1, h2, h3⟩ := h
  exact ⟨cs, ⟨ownsRow_block h1.1 (fun g hg => Below.heap_setCell _ _ _ _ (by have := h1.1.lt g hg; omega)), h1.2.1, h1.2.2.keep fun g k1 k2 k3 _ => Below.heap_setCell _ _ _ _ (by omega)⟩, h2.set ha u, h3⟩
end Go.Proofs.Ytkbcofgigfnfaab.own
