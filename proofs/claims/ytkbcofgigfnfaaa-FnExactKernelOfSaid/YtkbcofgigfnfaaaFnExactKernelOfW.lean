/- The walk of FnExactKernelOf, from what the model's function and the program's return. -/
import Derived.Test.YtkbcofgigfnfaaaIntFns
import Derived.Test.YtkbcofgigfnfaaaOwnG
import Derived.Deep.RegionHeld3
namespace Go.Proofs.Ytkbcofgigfnfaaa.fnExactKernelOfw
open Go.RowKit own
set_option linter.unusedVariables false
set_option linter.unusedSimpArgs false

set_option maxHeartbeats 1000000 in
theorem exit_len0 (a0 : Option Addr) (zs0 : List Int) (c0 : Nat) (a1 : Option Addr) (zs1 : List Int) (c1 : Nat) (n2 : Int) (w : World) (hr0 : ints.Reads .i64 w a0 zs0) (hr1 : ints.Reads .i64 w a1 zs1) (hl0 : zs0.length ≤ 9223372036854775807) (hl1 : zs1.length ≤ 9223372036854775807)   (h0 : 1048576 < zs0.length) : Calls Try.prog 9 #[.slice a0 zs0.length c0, .slice a1 zs1.length c1, .int .i64 n2] w fun e w' => e = .returned (.bool true) ∧ Below w.heap.size w w' := by
  have HR0 := Lib.hid hr0
  have HR1 := Lib.hid hr1
  clear hr0 hr1
  go_enter Try.func9, Try.ntmps9
  go_wp2_with fail
  go_ret
  exact ⟨rfl, by first | exact Below.refl _ _ | exact (Below.refl _ _).alloc (Nat.le_refl _) _ | exact ((Below.refl _ _).alloc (Nat.le_refl _) _).alloc (by simp) _ | exact (((Below.refl _ _).alloc (Nat.le_refl _) _).alloc (by simp) _).alloc (by simp; omega) _⟩

set_option maxHeartbeats 1000000 in
theorem exit_len1 (a0 : Option Addr) (zs0 : List Int) (c0 : Nat) (a1 : Option Addr) (zs1 : List Int) (c1 : Nat) (n2 : Int) (w : World) (hr0 : ints.Reads .i64 w a0 zs0) (hr1 : ints.Reads .i64 w a1 zs1) (hl0 : zs0.length ≤ 9223372036854775807) (hl1 : zs1.length ≤ 9223372036854775807)  (h0 : zs0.length ≤ 1048576) (h1 : 1048576 < zs1.length) : Calls Try.prog 9 #[.slice a0 zs0.length c0, .slice a1 zs1.length c1, .int .i64 n2] w fun e w' => e = .returned (.bool true) ∧ Below w.heap.size w w' := by
  have HR0 := Lib.hid hr0
  have HR1 := Lib.hid hr1
  clear hr0 hr1
  go_enter Try.func9, Try.ntmps9
  go_wp2_with fail
  go_ret
  exact ⟨rfl, by first | exact Below.refl _ _ | exact (Below.refl _ _).alloc (Nat.le_refl _) _ | exact ((Below.refl _ _).alloc (Nat.le_refl _) _).alloc (by simp) _ | exact (((Below.refl _ _).alloc (Nat.le_refl _) _).alloc (by simp) _).alloc (by simp; omega) _⟩

theorem law_big (a0 : Option Addr) (zs0 : List Int) (c0 : Nat) (a1 : Option Addr) (zs1 : List Int) (c1 : Nat) (n2 : Int) (w : World) (hr0 : ints.Reads .i64 w a0 zs0) (hr1 : ints.Reads .i64 w a1 zs1) (hl0 : zs0.length ≤ 9223372036854775807) (hl1 : zs1.length ≤ 9223372036854775807)  (hx : ¬ (zs0.length ≤ 1048576 ∧ zs1.length ≤ 1048576)) : Calls Try.prog 9 #[.slice a0 zs0.length c0, .slice a1 zs1.length c1, .int .i64 n2] w fun e w' => e = .returned (.bool true) ∧ Below w.heap.size w w' := by
  by_cases g0 : 1048576 < zs0.length
  · exact exit_len0 a0 zs0 c0 a1 zs1 c1 n2 w hr0 hr1 hl0 hl1  g0
  by_cases g1 : 1048576 < zs1.length
  · exact exit_len1 a0 zs0 c0 a1 zs1 c1 n2 w hr0 hr1 hl0 hl1 (by omega) g1
  · exact absurd (by refine ⟨?_, ?_⟩ <;> omega) hx

set_option maxRecDepth 100000 in
set_option maxHeartbeats 4000000 in
theorem law_small (a0 : Option Addr) (zs0 : List Int) (c0 : Nat) (a1 : Option Addr) (zs1 : List Int) (c1 : Nat) (n2 : Int) (r0 : Int) (ok : Bool) (w : World) (hr0 : ints.Reads .i64 w a0 zs0) (hr1 : ints.Reads .i64 w a1 zs1) (h0 : zs0.length ≤ 1048576) (h1 : zs1.length ≤ 1048576) 
    (HSpec : Hid (∀ (a0 : Option Addr) (c0 : Nat) (a1 : Option Addr) (c1 : Nat) (w : World), ints.Reads .i64 w a0 zs0 → ints.Reads .i64 w a1 zs1 → Calls Try.prog 38 #[.slice a0 zs0.length c0, .slice a1 zs1.length c1, .int .i64 n2] w (RetNB r0 ok w)))
    (HImpl : Hid (∀ (a0 : Option Addr) (c0 : Nat) (a1 : Option Addr) (c1 : Nat) (w : World), ints.Reads .i64 w a0 zs0 → ints.Reads .i64 w a1 zs1 → Calls Try.prog 39 #[.slice a0 zs0.length c0, .slice a1 zs1.length c1, .int .i64 n2] w (RetNB r0 ok w))) :
    Calls Try.prog 9 #[.slice a0 zs0.length c0, .slice a1 zs1.length c1, .int .i64 n2] w fun e w' => e = .returned (.bool true) ∧ Below w.heap.size w w' := by
  have HR0 := Lib.hid hr0
  have HR1 := Lib.hid hr1
  clear hr0 hr1
  go_enter Try.func9, Try.ntmps9
  go_wp2_with fail
  have HB0 := Lib.hid (Below.refl w.heap.size w)
  have s0 : w.heap.size ≤ w.heap.size := Nat.le_refl _
  refine (intfns.to_any a0 zs0 c0 _ (HR0.out.below HB0.out) (by omega)).mono ?_
  rintro e w1 ⟨v, rfl, ho, hb⟩
  obtain ⟨s0a, s0c, rfl, _, _, _⟩ := ho.slice
  have s1 : w.heap.size ≤ w1.heap.size := hb.size
  have HB1 := Lib.hid (HB0.out.trans (hb.mono (by omega)))
  clear hb
  have Os0 := Lib.hid ho
  clear ho
  go_wp2_with fail
  refine (intfns.to_any a1 zs1 c1 _ (HR1.out.below HB1.out) (by omega)).mono ?_
  rintro e w2 ⟨v, rfl, ho, hb⟩
  obtain ⟨s1a, s1c, rfl, _, _, _⟩ := ho.slice
  have s2 : w1.heap.size ≤ w2.heap.size := hb.size
  have HB2 := Lib.hid (HB1.out.trans (hb.mono (by omega)))
  replace Os0 := Lib.hid (Os0.out.below hb)
  clear hb
  have Os1 := Lib.hid ho
  clear ho
  go_wp2_with fail
  refine (HSpec.out _ _ _ _ _ Os0.out.reads Os1.out.reads).mono ?_
  rintro e w3 ⟨rfl, hb⟩
  have s3 : w2.heap.size ≤ w3.heap.size := hb.size
  have HB3 := Lib.hid (HB2.out.trans (hb.mono (by omega)))
  replace Os0 := Lib.hid (Os0.out.below hb)
  replace Os1 := Lib.hid (Os1.out.below hb)
  clear hb
  clear Os0
  clear Os1
  go_wp2_with fail
  refine (intfns.to_any a0 zs0 c0 _ (HR0.out.below HB3.out) (by omega)).mono ?_
  rintro e w4 ⟨v, rfl, ho, hb⟩
  obtain ⟨x0a, x0c, rfl, _, _, _⟩ := ho.slice
  have s4 : w3.heap.size ≤ w4.heap.size := hb.size
  have HB4 := Lib.hid (HB3.out.trans (hb.mono (by omega)))
  clear hb
  have Ox0 := Lib.hid ho
  clear ho
  go_wp2_with fail
  refine (intfns.to_any a1 zs1 c1 _ (HR1.out.below HB4.out) (by omega)).mono ?_
  rintro e w5 ⟨v, rfl, ho, hb⟩
  obtain ⟨x1a, x1c, rfl, _, _, _⟩ := ho.slice
  have s5 : w4.heap.size ≤ w5.heap.size := hb.size
  have HB5 := Lib.hid (HB4.out.trans (hb.mono (by omega)))
  replace Ox0 := Lib.hid (Ox0.out.below hb)
  clear hb
  have Ox1 := Lib.hid ho
  clear ho
  go_wp2_with fail
  refine (HImpl.out _ _ _ _ _ Ox0.out.reads Ox1.out.reads).mono ?_
  rintro e w6 ⟨rfl, hb⟩
  have s6 : w5.heap.size ≤ w6.heap.size := hb.size
  have HB6 := Lib.hid (HB5.out.trans (hb.mono (by omega)))
  replace Ox0 := Lib.hid (Ox0.out.below hb)
  replace Ox1 := Lib.hid (Ox1.out.below hb)
  clear hb
  go_wp2_with fail
  refine (intfns.to_any a0 zs0 c0 _ (HR0.out.below HB6.out) (by omega)).mono ?_
  rintro e w7 ⟨v, rfl, ho, hb⟩
  obtain ⟨q0a, q0c, rfl, _, _, _⟩ := ho.slice
  have s7 : w6.heap.size ≤ w7.heap.size := hb.size
  have HB7 := Lib.hid (HB6.out.trans (hb.mono (by omega)))
  replace Ox0 := Lib.hid (Ox0.out.below hb)
  replace Ox1 := Lib.hid (Ox1.out.below hb)
  clear hb
  have Oq0 := Lib.hid ho
  clear ho
  go_wp2_with fail
  refine (intfns.eq_same _ _ zs0 _ _ _ Ox0.out.reads Oq0.out.reads (by omega)).mono ?_
  rintro e w8 ⟨rfl, hb⟩
  have s8 : w7.heap.size ≤ w8.heap.size := hb.size
  have HB8 := Lib.hid (HB7.out.trans (hb.mono (by omega)))
  replace Ox0 := Lib.hid (Ox0.out.below hb)
  replace Ox1 := Lib.hid (Ox1.out.below hb)
  replace Oq0 := Lib.hid (Oq0.out.below hb)
  clear hb
  clear Oq0
  go_wp2_with fail
  refine (intfns.to_any a1 zs1 c1 _ (HR1.out.below HB8.out) (by omega)).mono ?_
  rintro e w9 ⟨v, rfl, ho, hb⟩
  obtain ⟨q1a, q1c, rfl, _, _, _⟩ := ho.slice
  have s9 : w8.heap.size ≤ w9.heap.size := hb.size
  have HB9 := Lib.hid (HB8.out.trans (hb.mono (by omega)))
  replace Ox0 := Lib.hid (Ox0.out.below hb)
  replace Ox1 := Lib.hid (Ox1.out.below hb)
  clear hb
  have Oq1 := Lib.hid ho
  clear ho
  go_wp2_with fail
  refine (intfns.eq_same _ _ zs1 _ _ _ Ox1.out.reads Oq1.out.reads (by omega)).mono ?_
  rintro e w10 ⟨rfl, hb⟩
  have s10 : w9.heap.size ≤ w10.heap.size := hb.size
  have HB10 := Lib.hid (HB9.out.trans (hb.mono (by omega)))
  replace Ox0 := Lib.hid (Ox0.out.below hb)
  replace Ox1 := Lib.hid (Ox1.out.below hb)
  replace Oq1 := Lib.hid (Oq1.out.below hb)
  clear hb
  clear Oq1
  go_wp2_with fail
  go_ret
  exact ⟨rfl, HB10.out⟩
end Go.Proofs.Ytkbcofgigfnfaaa.fnExactKernelOfw
