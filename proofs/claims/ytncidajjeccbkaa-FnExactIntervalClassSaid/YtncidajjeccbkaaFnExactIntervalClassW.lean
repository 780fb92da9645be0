/- The walk of FnExactIntervalClass, from what the model's function and the program's return. -/
import Derived.Test.YtncidajjeccbkaaRets
import Derived.Test.YtncidajjeccbkaaGridMark
import Derived.Test.YtncidajjeccbkaaIntFns
import Derived.Test.YtncidajjeccbkaaOwnG
import Derived.Deep.RegionHeld3
namespace Go.Proofs.Ytncidajjeccbkaa.fnExactIntervalClassw
open Go.RowKit own
set_option linter.unusedVariables false
set_option linter.unusedSimpArgs false

set_option maxRecDepth 100000 in
set_option maxHeartbeats 4000000 in
theorem law_small (n0 : Int) (r0 : List (List Int)) (ok : Bool) (w : World)   (hz0 : r0.length + grid.tot r0 ≤ 1048576)
    (HSpec : Hid (∀ (w : World), Calls Try.prog 20 #[.int .i64 n0] w (RetGB r0 ok w)))
    (HImpl : Hid (∀ (w : World), Calls Try.prog 21 #[.int .i64 n0] w (RetGB r0 ok w))) :
    Calls Try.prog 4 #[.int .i64 n0] w fun e w' => e = .returned (.bool true) ∧ Below w.heap.size w w' := by
  go_enter Try.func4, Try.ntmps4
  go_wp2_with fail
  have HB0 := Lib.hid (Below.refl w.heap.size w)
  have s0 : w.heap.size ≤ w.heap.size := Nat.le_refl _
  refine (HSpec.out  _ ).mono ?_
  rintro e w1 ⟨v, rfl, ho, hb⟩
  obtain ⟨va, vc, rfl, _, _, _⟩ := ho.slice
  have s1 : w.heap.size ≤ w1.heap.size := hb.size
  have HB1 := Lib.hid (HB0.out.trans (hb.mono (by omega)))
  clear hb
  have Ov := Lib.hid ho
  clear ho
  go_wp2_with fail
  refine (HImpl.out  _ ).mono ?_
  rintro e w2 ⟨v, rfl, ho, hb⟩
  obtain ⟨ga, gc, rfl, _, _, _⟩ := ho.slice
  have s2 : w1.heap.size ≤ w2.heap.size := hb.size
  have HB2 := Lib.hid (HB1.out.trans (hb.mono (by omega)))
  replace Ov := Lib.hid (Ov.out.below hb)
  clear hb
  have Og := Lib.hid ho
  clear ho
  go_wp2_with fail
  refine (gridfns.eq_same _ _ r0 _ _ _ Og.out.reads Ov.out.reads (by omega) (fun s hs => by have := grid.len_le_tot r0 s hs; omega)).mono ?_
  rintro e w3 ⟨rfl, hb⟩
  have s3 : w2.heap.size ≤ w3.heap.size := hb.size
  have HB3 := Lib.hid (HB2.out.trans (hb.mono (by omega)))
  replace Ov := Lib.hid (Ov.out.below hb)
  replace Og := Lib.hid (Og.out.below hb)
  clear hb
  go_wp2_with fail
  refine (gridmark.mark_any (w1.heap.size) (w2.heap.size) _ _ r0 (1) _ Og.out (by omega) (by omega)).mono ?_
  rintro e w4 ⟨rfl, ho, hb⟩
  have s4 : w3.heap.size ≤ w4.heap.size := hb.size
  have HB4 := Lib.hid (HB3.out.trans ((hb.below (by omega)).mono (by omega)))
  replace Ov := Lib.hid (Ov.out.only hb (by omega))
  clear hb
  replace Og := Lib.hid ho
  clear ho
  go_wp2_with fail
  refine (gridfns.held_any _ _ r0 (1) _ Og.out.reads (by omega) (by omega)).mono ?_
  rintro e w5 ⟨rfl, hb⟩
  have s5 : w4.heap.size ≤ w5.heap.size := hb.size
  have HB5 := Lib.hid (HB4.out.trans (hb.mono (by omega)))
  replace Ov := Lib.hid (Ov.out.below hb)
  replace Og := Lib.hid (Og.out.below hb)
  clear hb
  go_wp2_with fail
  refine (HImpl.out  _ ).mono ?_
  rintro e w6 ⟨v, rfl, ho, hb⟩
  obtain ⟨ha, hc, rfl, _, _, _⟩ := ho.slice
  have s6 : w5.heap.size ≤ w6.heap.size := hb.size
  have HB6 := Lib.hid (HB5.out.trans (hb.mono (by omega)))
  replace Ov := Lib.hid (Ov.out.below hb)
  replace Og := Lib.hid (Og.out.below hb)
  clear hb
  have Oh := Lib.hid ho
  clear ho
  go_wp2_with fail
  refine (gridfns.eq_same _ _ r0 _ _ _ Oh.out.reads Ov.out.reads (by omega) (fun s hs => by have := grid.len_le_tot r0 s hs; omega)).mono ?_
  rintro e w7 ⟨rfl, hb⟩
  have s7 : w6.heap.size ≤ w7.heap.size := hb.size
  have HB7 := Lib.hid (HB6.out.trans (hb.mono (by omega)))
  replace Ov := Lib.hid (Ov.out.below hb)
  replace Og := Lib.hid (Og.out.below hb)
  replace Oh := Lib.hid (Oh.out.below hb)
  clear hb
  go_wp2_with fail
  refine (gridfns.held_any _ _ r0 (1) _ Og.out.reads (by omega) (by omega)).mono ?_
  rintro e w8 ⟨rfl, hb⟩
  have s8 : w7.heap.size ≤ w8.heap.size := hb.size
  have HB8 := Lib.hid (HB7.out.trans (hb.mono (by omega)))
  replace Ov := Lib.hid (Ov.out.below hb)
  replace Og := Lib.hid (Og.out.below hb)
  replace Oh := Lib.hid (Oh.out.below hb)
  clear hb
  go_wp2_with fail
  go_ret
  exact ⟨rfl, HB8.out⟩
end Go.Proofs.Ytncidajjeccbkaa.fnExactIntervalClassw
