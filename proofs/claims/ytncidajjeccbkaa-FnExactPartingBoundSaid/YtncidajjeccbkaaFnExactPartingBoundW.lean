/- The walk of FnExactPartingBound, from what the model's function and the program's return. -/
import Derived.Test.YtncidajjeccbkaaIntFns
import Derived.Test.YtncidajjeccbkaaOwnG
import Derived.Deep.RegionHeld3
namespace Go.Proofs.Ytncidajjeccbkaa.fnExactPartingBoundw
open Go.RowKit own
set_option linter.unusedVariables false
set_option linter.unusedSimpArgs false

set_option maxRecDepth 100000 in
set_option maxHeartbeats 4000000 in
theorem law_small (n0 : Int) (n1 : Int) (r0 : Int) (ok : Bool) (w : World)   
    (HSpec : Hid (∀ (w : World), Calls Try.prog 46 #[.int .i64 n0, .int .i64 n1] w (RetNB r0 ok w)))
    (HImpl : Hid (∀ (w : World), Calls Try.prog 47 #[.int .i64 n0, .int .i64 n1] w (RetNB r0 ok w))) :
    Calls Try.prog 14 #[.int .i64 n0, .int .i64 n1] w fun e w' => e = .returned (.bool true) ∧ Below w.heap.size w w' := by
  go_enter Try.func14, Try.ntmps14
  go_wp2_with fail
  have HB0 := Lib.hid (Below.refl w.heap.size w)
  have s0 : w.heap.size ≤ w.heap.size := Nat.le_refl _
  refine (HSpec.out  _ ).mono ?_
  rintro e w1 ⟨rfl, hb⟩
  have s1 : w.heap.size ≤ w1.heap.size := hb.size
  have HB1 := Lib.hid (HB0.out.trans (hb.mono (by omega)))
  clear hb
  go_wp2_with fail
  refine (HImpl.out  _ ).mono ?_
  rintro e w2 ⟨rfl, hb⟩
  have s2 : w1.heap.size ≤ w2.heap.size := hb.size
  have HB2 := Lib.hid (HB1.out.trans (hb.mono (by omega)))
  clear hb
  go_wp2_with fail
  go_wp2_with fail
  go_ret
  exact ⟨rfl, HB2.out⟩
end Go.Proofs.Ytncidajjeccbkaa.fnExactPartingBoundw
