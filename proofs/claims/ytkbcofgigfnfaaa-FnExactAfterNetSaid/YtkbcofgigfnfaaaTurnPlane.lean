/- The walks of the model's and the program's TurnPlane. -/
import Derived.Test.YtkbcofgigfnfaaaKept
namespace Go.Proofs.Ytkbcofgigfnfaaa.turnplane
open Go.RowKit own pp nums planes minus kept
set_option linter.unusedVariables false
set_option linter.unusedSimpArgs false

theorem planeB_big {zs : List Int} {b : Int} (h : planeB zs b = true) : numsB 1000 zs = true := all_true _ 0 _ fun k hk => by
  have := numsB_at ((planeB_iff _ _).1 h).2.2.1 k hk
  rw [inB_iff]; omega
theorem planeB_b {zs : List Int} {b : Int} (h : planeB zs b = true) : -99 ≤ b ∧ b ≤ 99 := (inB_iff _ _).1 ((planeB_iff _ _).1 h).2.2.2
theorem planeB_l {zs : List Int} {b : Int} (h : planeB zs b = true) : zs.length ≤ 4 := ((planeB_iff _ _).1 h).2.1

end Go.Proofs.Ytkbcofgigfnfaaa.turnplane
