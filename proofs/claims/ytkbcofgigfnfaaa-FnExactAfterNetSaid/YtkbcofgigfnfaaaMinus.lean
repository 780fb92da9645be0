/- The walks of the model's and the program's lists times -1, and of what is a plane. -/
import Derived.Test.YtkbcofgigfnfaaaPlanes
import Derived.Test.YtkbcofgigfnfaaaIntFns
import Derived.OwnWalk
import Derived.RangeFuncBox
namespace Go.Proofs.Ytkbcofgigfnfaaa.minus
open Go.RowKit own pp nums planes
set_option linter.unusedVariables false

theorem infoInt : (Try.prog.info? 3).map (fun i => (i.zero, i.size, i.bytes)) = some (some (.int .i64 0), 1, 8) := by kernel_rfl
def neg (zs : List Int) : List Int := zs.map fun z => -z
theorem neg_length (zs : List Int) : (neg zs).length = zs.length := by simp [neg]
theorem neg_take_succ (zs : List Int) (k : Nat) (h : k < zs.length) : neg (zs.take (k + 1)) = neg (zs.take k) ++ [-(zs.getD k 0)] := by
  unfold neg
  rw [List.take_succ_eq_append_getElem h, List.map_append, List.getD_eq_getElem?_getD, List.getElem?_eq_getElem h]; rfl

end Go.Proofs.Ytkbcofgigfnfaaa.minus
