/- The walks of the laws' own helpers on lists of lists of integers: szIntSS, toIntSS, eqIntSS, markIntSS, heldIntSS. -/
import Derived.Test.YtchlkcmgonbcjaaIntFns
import Derived.Test.YtchlkcmgonbcjaaOwnG
import Derived.Deep.RegionHeld3
namespace Go.Proofs.Ytchlkcmgonbcjaa.gridfns
open Go.RowKit own
set_option linter.unusedVariables false


theorem infoInts : (Try.prog.info? 22).map (fun i => (i.zero, i.size, i.bytes)) = some (some (.slice none 0 0), 1, 24) := by kernel_rfl


theorem below_of3 {b o b' o' : Nat} {x x' : Value} {w wr wa : World} (hB : Below w.heap.size w wr) (h : wa.cell? ⟨b, o, none⟩ = some x ∧ wa.cell? ⟨b', o', none⟩ = some x' ∧ Below wr.heap.size wr wa) : Below w.heap.size w wa := hB.trans (h.2.2.mono hB.size)

end Go.Proofs.Ytchlkcmgonbcjaa.gridfns
