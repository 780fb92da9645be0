/- The walk of FnExactVapnikNumber, from what the model's function and the program's return. -/
import Derived.Test.YtncidajjeccbkaaGridMark
import Derived.Test.YtncidajjeccbkaaIntFns
import Derived.Test.YtncidajjeccbkaaOwnG
import Derived.Deep.RegionHeld3
namespace Go.Proofs.Ytncidajjeccbkaa.fnExactVapnikNumberw
open Go.RowKit own
set_option linter.unusedVariables false
set_option linter.unusedSimpArgs false

set_option maxHeartbeats 1000000 in
theorem exit_sz0 (a0 : Option Addr) (rows0 : List (List Int)) (c0 : Nat) (w : World) (hr0 : grid.Reads w a0 rows0) (hl0 : rows0.length ≤ 9223372036854775807) (hm0 : ∀ s ∈ rows0, s.length ≤ 9223372036854775807)  (hx : 1048576 < (rows0.length : Int) + (grid.tot rows0 : Int)) : Calls Try.prog 8 #[.slice a0 rows0.length c0] w fun e w' => e = .returned (.bool true) ∧ Below w.heap.size w w' := by
  have HR0 := Lib.hid hr0
  clear hr0
  have HM0 := Lib.hid hm0
  clear hm0
  go_enter Try.func8, Try.ntmps8
  go_wp2_with fail
  have HB0 := Lib.hid (Below.refl w.heap.size w)
  have s0 : w.heap.size ≤ w.heap.size := Nat.le_refl _
  refine (gridfns.sz_no _ rows0 _ _ _ (HR0.out.below HB0.out) (by omega) HM0.out (by omega) (by omega) (by omega)).mono ?_
  rintro e w' ⟨rfl, rfl⟩
  go_wp2_with fail
  go_ret
  exact ⟨rfl, HB0.out⟩

theorem law_big (a0 : Option Addr) (rows0 : List (List Int)) (c0 : Nat) (w : World) (hr0 : grid.Reads w a0 rows0) (hl0 : rows0.length ≤ 9223372036854775807) (hm0 : ∀ s ∈ rows0, s.length ≤ 9223372036854775807) (hx : ¬ ((rows0.length : Int) + (grid.tot rows0 : Int) ≤ 1048576)) : Calls Try.prog 8 #[.slice a0 rows0.length c0] w fun e w' => e = .returned (.bool true) ∧ Below w.heap.size w w' := by
  by_cases k0 : 1048576 < (rows0.length : Int) + (grid.tot rows0 : Int)
  · exact exit_sz0 a0 rows0 c0 w hr0 hl0 hm0   k0
  · exact absurd (by omega) hx

set_option maxRecDepth 100000 in
set_option maxHeartbeats 4000000 in
theorem law_small (a0 : Option Addr) (rows0 : List (List Int)) (c0 : Nat) (r0 : Int) (ok : Bool) (w : World) (hr0 : grid.Reads w a0 rows0) (h0 : (rows0.length : Int) + (grid.tot rows0 : Int) ≤ 1048576) 
    (HSpec : Hid (∀ (a0 : Option Addr) (c0 : Nat) (w : World), grid.Reads w a0 rows0 → Calls Try.prog 33 #[.slice a0 rows0.length c0] w (RetNB r0 ok w)))
    (HImpl : Hid (∀ (a0 : Option Addr) (c0 : Nat) (w : World), grid.Reads w a0 rows0 → Calls Try.prog 34 #[.slice a0 rows0.length c0] w (RetNB r0 ok w))) :
    Calls Try.prog 8 #[.slice a0 rows0.length c0] w fun e w' => e = .returned (.bool true) ∧ Below w.heap.size w w' := by
  have HR0 := Lib.hid hr0
  clear hr0
  go_enter Try.func8, Try.ntmps8
  go_wp2_with fail
  have HB0 := Lib.hid (Below.refl w.heap.size w)
  have s0 : w.heap.size ≤ w.heap.size := Nat.le_refl _
  refine (gridfns.sz_yes _ rows0 _ _ _ (HR0.out.below HB0.out) (by omega) (by omega)).mono ?_
  rintro e w' ⟨rfl, rfl⟩
  go_wp2_with fail
  refine (gridfns.to_any a0 rows0 c0 _ (HR0.out.below HB0.out) (by omega)).mono ?_
  rintro e w1 ⟨v, rfl, ho, hb⟩
  obtain ⟨s0a, s0c, rfl, _, _, _⟩ := ho.slice
  have s1 : w.heap.size ≤ w1.heap.size := hb.size
  have HB1 := Lib.hid (HB0.out.trans (hb.mono (by omega)))
  clear hb
  have Os0 := Lib.hid ho
  clear ho
  go_wp2_with fail
  refine (HSpec.out _ _ _ Os0.out.reads).mono ?_
  rintro e w2 ⟨rfl, hb⟩
  have s2 : w1.heap.size ≤ w2.heap.size := hb.size
  have HB2 := Lib.hid (HB1.out.trans (hb.mono (by omega)))
  replace Os0 := Lib.hid (Os0.out.below hb)
  clear hb
  clear Os0
  go_wp2_with fail
  refine (gridfns.to_any a0 rows0 c0 _ (HR0.out.below HB2.out) (by omega)).mono ?_
  rintro e w3 ⟨v, rfl, ho, hb⟩
  obtain ⟨x0a, x0c, rfl, _, _, _⟩ := ho.slice
  have s3 : w2.heap.size ≤ w3.heap.size := hb.size
  have HB3 := Lib.hid (HB2.out.trans (hb.mono (by omega)))
  clear hb
  have Ox0 := Lib.hid ho
  clear ho
  go_wp2_with fail
  refine (HImpl.out _ _ _ Ox0.out.reads).mono ?_
  rintro e w4 ⟨rfl, hb⟩
  have s4 : w3.heap.size ≤ w4.heap.size := hb.size
  have HB4 := Lib.hid (HB3.out.trans (hb.mono (by omega)))
  replace Ox0 := Lib.hid (Ox0.out.below hb)
  clear hb
  go_wp2_with fail
  refine (gridfns.to_any a0 rows0 c0 _ (HR0.out.below HB4.out) (by omega)).mono ?_
  rintro e w5 ⟨v, rfl, ho, hb⟩
  obtain ⟨q0a, q0c, rfl, _, _, _⟩ := ho.slice
  have s5 : w4.heap.size ≤ w5.heap.size := hb.size
  have HB5 := Lib.hid (HB4.out.trans (hb.mono (by omega)))
  replace Ox0 := Lib.hid (Ox0.out.below hb)
  clear hb
  have Oq0 := Lib.hid ho
  clear ho
  go_wp2_with fail
  refine (gridfns.eq_same _ _ rows0 _ _ _ Ox0.out.reads Oq0.out.reads (by omega) (fun s hs => by have := grid.len_le_tot rows0 s hs; omega)).mono ?_
  rintro e w6 ⟨rfl, hb⟩
  have s6 : w5.heap.size ≤ w6.heap.size := hb.size
  have HB6 := Lib.hid (HB5.out.trans (hb.mono (by omega)))
  replace Ox0 := Lib.hid (Ox0.out.below hb)
  replace Oq0 := Lib.hid (Oq0.out.below hb)
  clear hb
  clear Oq0
  go_wp2_with fail
  go_ret
  exact ⟨rfl, HB6.out⟩
end Go.Proofs.Ytncidajjeccbkaa.fnExactVapnikNumberw
