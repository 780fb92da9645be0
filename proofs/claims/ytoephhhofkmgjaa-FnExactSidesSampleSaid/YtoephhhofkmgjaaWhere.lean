/- The walks of the program's places where a function holds, whatever the function: it may make memory. -/
import Derived.Test.YtoephhhofkmgjaaMk
import Derived.Outline
import Derived.Shelf.Abstract
namespace Go.Proofs.Ytoephhhofkmgjaa.pwh
open Go.RowKit own pp nums mk
set_option linter.unusedVariables false
set_option linter.unusedSimpArgs false

/-- The places below k where p holds. -/
def placesTo (p : Nat → Bool) (k : Nat) : List Int := ((List.range k).filter p).map fun i : Nat => (i : Int)
theorem placesTo_length (p : Nat → Bool) (k : Nat) : (placesTo p k).length ≤ k := by
  unfold placesTo
  rw [List.length_map]
  exact Nat.le_trans (List.length_filter_le _ _) (by simp)
theorem placesTo_hit (p : Nat → Bool) (k : Nat) (h : p k = true) : placesTo p (k + 1) = placesTo p k ++ [(k : Int)] := by
  simp [placesTo, List.range_succ, List.filter_append, h]
theorem placesTo_miss (p : Nat → Bool) (k : Nat) (h : p k = false) : placesTo p (k + 1) = placesTo p k := by
  simp [placesTo, List.range_succ, List.filter_append, h]
theorem placesTo_congr {p q : Nat → Bool} {n : Nat} (h : ∀ k, k < n → p k = q k) : placesTo p n = placesTo q n := by
  unfold placesTo
  rw [List.filter_congr (fun k hk => h k (List.mem_range.1 hk))]

end Go.Proofs.Ytoephhhofkmgjaa.pwh
