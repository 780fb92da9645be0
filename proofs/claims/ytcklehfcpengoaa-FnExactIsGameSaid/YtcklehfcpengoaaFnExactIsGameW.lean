/- The walk of FnExactIsGame, from what the model's function and the program's return. -/
import Derived.Test.YtcklehfcpengoaaIntFns
import Derived.Test.YtcklehfcpengoaaOwnG
import Derived.Deep.RegionHeld3
namespace Go.Proofs.Ytcklehfcpengoaa.fnExactIsGamew
open Go.RowKit own
set_option linter.unusedVariables false
set_option linter.unusedSimpArgs false

set_option maxHeartbeats 1000000 in
theorem exit_len1 (n0 : Int) (a1 : Option Addr) (zs1 : List Int) (c1 : Nat) (w : World) (hr1 : ints.Reads .i64 w a1 zs1)  (hl1 : zs1.length ≤ 9223372036854775807)  (h1 : 1048576 < zs1.length) : Calls Try.prog 10 #[.int .i64 n0, .slice a1 zs1.length c1] w fun e w' => e = .returned (.bool true) ∧ Below w.heap.size w w' := by
  have HR1 := Lib.hid hr1
  clear hr1
  go_enter Try.func10, Try.ntmps10
  go_wp2_with fail
  go_ret
  exact ⟨rfl, by first | exact Below.refl _ _ | exact (Below.refl _ _).alloc (Nat.le_refl _) _ | exact ((Below.refl _ _).alloc (Nat.le_refl _) _).alloc (by simp) _⟩

theorem law_big (n0 : Int) (a1 : Option Addr) (zs1 : List Int) (c1 : Nat) (w : World) (hr1 : ints.Reads .i64 w a1 zs1)  (hl1 : zs1.length ≤ 9223372036854775807) (hx : ¬ (zs1.length ≤ 1048576)) : Calls Try.prog 10 #[.int .i64 n0, .slice a1 zs1.length c1] w fun e w' => e = .returned (.bool true) ∧ Below w.heap.size w w' := by
  by_cases g1 : 1048576 < zs1.length
  · exact exit_len1 n0 a1 zs1 c1 w hr1 hl1  g1
  · exact absurd (by omega) hx

set_option maxRecDepth 100000 in
set_option maxHeartbeats 4000000 in
theorem law_small (n0 : Int) (a1 : Option Addr) (zs1 : List Int) (c1 : Nat) (r0 : Bool) (ok : Bool) (w : World) (hr1 : ints.Reads .i64 w a1 zs1) (h0 : zs1.length ≤ 1048576) 
    (HSpec : Hid (∀ (a1 : Option Addr) (c1 : Nat) (w : World), ints.Reads .i64 w a1 zs1 → Calls Try.prog 38 #[.int .i64 n0, .slice a1 zs1.length c1] w (RetBB r0 ok w)))
    (HImpl : Hid (∀ (a1 : Option Addr) (c1 : Nat) (w : World), ints.Reads .i64 w a1 zs1 → Calls Try.prog 39 #[.int .i64 n0, .slice a1 zs1.length c1] w (RetBB r0 ok w))) :
    Calls Try.prog 10 #[.int .i64 n0, .slice a1 zs1.length c1] w fun e w' => e = .returned (.bool true) ∧ Below w.heap.size w w' := by
  have HR1 := Lib.hid hr1
  clear hr1
  go_enter Try.func10, Try.ntmps10
  go_wp2_with fail
  have HB0 := Lib.hid (Below.refl w.heap.size w)
  have s0 : w.heap.size ≤ w.heap.size := Nat.le_refl _
  refine (intfns.to_any a1 zs1 c1 _ (HR1.out.below HB0.out) (by omega)).mono ?_
  rintro e w1 ⟨v, rfl, ho, hb⟩
  obtain ⟨s1a, s1c, rfl, _, _, _⟩ := ho.slice
  have s1 : w.heap.size ≤ w1.heap.size := hb.size
  have HB1 := Lib.hid (HB0.out.trans (hb.mono (by omega)))
  clear hb
  have Os1 := Lib.hid ho
  clear ho
  go_wp2_with fail
  refine (HSpec.out _ _ _ Os1.out.reads).mono ?_
  rintro e w2 ⟨rfl, hb⟩
  have s2 : w1.heap.size ≤ w2.heap.size := hb.size
  have HB2 := Lib.hid (HB1.out.trans (hb.mono (by omega)))
  replace Os1 := Lib.hid (Os1.out.below hb)
  clear hb
  clear Os1
  go_wp2_with fail
  refine (intfns.to_any a1 zs1 c1 _ (HR1.out.below HB2.out) (by omega)).mono ?_
  rintro e w3 ⟨v, rfl, ho, hb⟩
  obtain ⟨x1a, x1c, rfl, _, _, _⟩ := ho.slice
  have s3 : w2.heap.size ≤ w3.heap.size := hb.size
  have HB3 := Lib.hid (HB2.out.trans (hb.mono (by omega)))
  clear hb
  have Ox1 := Lib.hid ho
  clear ho
  go_wp2_with fail
  refine (HImpl.out _ _ _ Ox1.out.reads).mono ?_
  rintro e w4 ⟨rfl, hb⟩
  have s4 : w3.heap.size ≤ w4.heap.size := hb.size
  have HB4 := Lib.hid (HB3.out.trans (hb.mono (by omega)))
  replace Ox1 := Lib.hid (Ox1.out.below hb)
  clear hb
  go_wp2_with fail
  refine (intfns.to_any a1 zs1 c1 _ (HR1.out.below HB4.out) (by omega)).mono ?_
  rintro e w5 ⟨v, rfl, ho, hb⟩
  obtain ⟨q1a, q1c, rfl, _, _, _⟩ := ho.slice
  have s5 : w4.heap.size ≤ w5.heap.size := hb.size
  have HB5 := Lib.hid (HB4.out.trans (hb.mono (by omega)))
  replace Ox1 := Lib.hid (Ox1.out.below hb)
  clear hb
  have Oq1 := Lib.hid ho
  clear ho
  go_wp2_with fail
  refine (intfns.eq_same _ _ zs1 _ _ _ Ox1.out.reads Oq1.out.reads (by omega)).mono ?_
  rintro e w6 ⟨rfl, hb⟩
  have s6 : w5.heap.size ≤ w6.heap.size := hb.size
  have HB6 := Lib.hid (HB5.out.trans (hb.mono (by omega)))
  replace Ox1 := Lib.hid (Ox1.out.below hb)
  replace Oq1 := Lib.hid (Oq1.out.below hb)
  clear hb
  clear Oq1
  go_wp2_with fail
  go_ret
  exact ⟨rfl, HB6.out⟩
end Go.Proofs.Ytcklehfcpengoaa.fnExactIsGamew
