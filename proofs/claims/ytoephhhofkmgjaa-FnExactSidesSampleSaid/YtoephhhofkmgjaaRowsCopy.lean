/- The walks of the model's copy of lists of lists and of the program's sample of changed points. -/
import Derived.Test.YtoephhhofkmgjaaGridFns
import Derived.Test.YtoephhhofkmgjaaOwn1
import Derived.Test.YtoephhhofkmgjaaSetCell
import Derived.OwnWalk
import Derived.RangeFuncBox
namespace Go.Proofs.Ytoephhhofkmgjaa.rowscopy
open Go.RowKit own
set_option linter.unusedVariables false
set_option linter.unusedSimpArgs false

theorem infoInts : (Try.prog.info? 33).map (fun i => (i.zero, i.size, i.bytes)) = some (some (.slice none 0 0), 1, 24) := by kernel_rfl
theorem ownG_empty (w : World) : w.heap.size ≤ w.heap.size ∧ (w.alloc (.cells #[] 33)).ownsRow w.heap.size 33 1 (.slice (some ⟨w.heap.size, 0, none⟩) 0 0) 0 [] :=
  ⟨Nat.le_refl _, World.ownsRow_made (base := w.heap.size) (e := 33) (size := 1) w #[] 0 (Nat.le_refl _) (by unfold maxLen; omega) rfl⟩

/-- One more row behind an append. -/
theorem push {lo hi k : Nat} {w2 w3 : World} {v c : Value} {cs : List Value} {rows : List (List Int)} {O : Obj} (ho : w2.ownsRow lo 33 1 v k cs) (hr : RowsOf lo hi w2 cs (rows.take k)) (hc : OwnI hi w2.heap.size w2 c (rows.getD k [])) (h1 : lo ≤ hi) (h2 : hi ≤ w2.heap.size) (hk : k < rows.length)
    (hg : (w2.alloc O).grownBy w3 v.ownBlock) : RowsOf lo w3.heap.size w3 (cs ++ [c]) (rows.take (k + 1)) := by
  have h := hr.snoc hc h1 h2
  rw [← take_snoc_getD rows k hk] at h
  have hs : w2.heap.size ≤ w3.heap.size := Nat.le_trans (by simp) hg.size
  refine (h.keep fun g hl hh hgs hbl => ?_).mono (Nat.le_refl _) hs
  rw [hg.block g (by simp; omega) (fun e => ?_), Below.heap_alloc w2 O g hgs]
  obtain ⟨i, hi', hb⟩ := hbl
  exact ownsRow_ne (h.2.1 i hi').1 ho (by decide) hb e.symm

end Go.Proofs.Ytoephhhofkmgjaa.rowscopy
