/- A cell of another block than the one that is stored to: a plain lemma, no condition. -/
import Derived.Test.YtlehlgnenaapaaaOwnG
namespace Go.Proofs.Ytlehlgnenaapaaa.own
open Go.RowKit

theorem cell_set {w : World} {b o : Nat} {x : Value} (h : w.cell? ⟨b, o, none⟩ = some x) {a : Addr} (hb : b ≠ a.block) (u : Value) : (w.setCell a u).cell? ⟨b, o, none⟩ = some x :=
  (World.cell?_of_block (Below.heap_setCell _ _ _ _ hb)).trans h
end Go.Proofs.Ytlehlgnenaapaaa.own
