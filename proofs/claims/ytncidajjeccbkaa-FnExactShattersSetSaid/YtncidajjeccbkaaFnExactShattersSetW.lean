/- The walk of FnExactShattersSet, from what the model's function and the program's return. -/
import Derived.Test.YtncidajjeccbkaaGridMark
import Derived.Test.YtncidajjeccbkaaIntFns
import Derived.Test.YtncidajjeccbkaaOwnG
import Derived.Deep.RegionHeld3
namespace Go.Proofs.Ytncidajjeccbkaa.fnExactShattersSetw
open Go.RowKit own
set_option linter.unusedVariables false
set_option linter.unusedSimpArgs false

set_option maxHeartbeats 1000000 in
theorem exit_len1 (a0 : Option Addr) (rows0 : List (List Int)) (c0 : Nat) (a1 : Option Addr) (zs1 : List Int) (c1 : Nat) (w : World) (hr0 : grid.Reads w a0 rows0) (hr1 : ints.Reads .i64 w a1 zs1) (hl0 : rows0.length ≤ 9223372036854775807) (hm0 : ∀ s ∈ rows0, s.length ≤ 9223372036854775807) (hl1 : zs1.length ≤ 9223372036854775807)  (h1 : 1048576 < zs1.length) : Calls Try.prog 6 #[.slice a0 rows0.length c0, .slice a1 zs1.length c1] w fun e w' => e = .returned (.bool true) ∧ Below w.heap.size w w' := by
  have HR0 := Lib.hid hr0
  have HR1 := Lib.hid hr1
  clear hr0 hr1
  clear hm0
  go_enter Try.func6, Try.ntmps6
  go_wp2_with fail
  go_ret
  exact ⟨rfl, by first | exact Below.refl _ _ | exact (Below.refl _ _).alloc (Nat.le_refl _) _ | exact ((Below.refl _ _).alloc (Nat.le_refl _) _).alloc (by simp) _⟩

set_option maxHeartbeats 1000000 in
theorem exit_sz0 (a0 : Option Addr) (rows0 : List (List Int)) (c0 : Nat) (a1 : Option Addr) (zs1 : List Int) (c1 : Nat) (w : World) (hr0 : grid.Reads w a0 rows0) (hr1 : ints.Reads .i64 w a1 zs1) (hl0 : rows0.length ≤ 9223372036854775807) (hm0 : ∀ s ∈ rows0, s.length ≤ 9223372036854775807) (hl1 : zs1.length ≤ 9223372036854775807) (h1 : zs1.length ≤ 1048576) (hx : 1048576 < (rows0.length : Int) + (grid.tot rows0 : Int)) : Calls Try.prog 6 #[.slice a0 rows0.length c0, .slice a1 zs1.length c1] w fun e w' => e = .returned (.bool true) ∧ Below w.heap.size w w' := by
  have HR0 := Lib.hid hr0
  have HR1 := Lib.hid hr1
  clear hr0 hr1
  have HM0 := Lib.hid hm0
  clear hm0
  go_enter Try.func6, Try.ntmps6
  go_wp2_with fail
  have HB0 := Lib.hid (Below.refl w.heap.size w)
  have s0 : w.heap.size ≤ w.heap.size := Nat.le_refl _
  refine (gridfns.sz_no _ rows0 _ _ _ (HR0.out.below HB0.out) (by omega) HM0.out (by omega) (by omega) (by omega)).mono ?_
  rintro e w' ⟨rfl, rfl⟩
  go_wp2_with fail
  go_ret
  exact ⟨rfl, HB0.out⟩

theorem law_big (a0 : Option Addr) (rows0 : List (List Int)) (c0 : Nat) (a1 : Option Addr) (zs1 : List Int) (c1 : Nat) (w : World) (hr0 : grid.Reads w a0 rows0) (hr1 : ints.Reads .i64 w a1 zs1) (hl0 : rows0.length ≤ 9223372036854775807) (hm0 : ∀ s ∈ rows0, s.length ≤ 9223372036854775807) (hl1 : zs1.length ≤ 9223372036854775807) (hx : ¬ (zs1.length ≤ 1048576 ∧ (rows0.length : Int) + (grid.tot rows0 : Int) ≤ 1048576)) : Calls Try.prog 6 #[.slice a0 rows0.length c0, .slice a1 zs1.length c1] w fun e w' => e = .returned (.bool true) ∧ Below w.heap.size w w' := by
  by_cases g1 : 1048576 < zs1.length
  · exact exit_len1 a0 rows0 c0 a1 zs1 c1 w hr0 hr1 hl0 hm0 hl1  g1
  by_cases k0 : 1048576 < (rows0.length : Int) + (grid.tot rows0 : Int)
  · exact exit_sz0 a0 rows0 c0 a1 zs1 c1 w hr0 hr1 hl0 hm0 hl1 (by omega)  k0
  · exact absurd (by refine ⟨?_, ?_⟩ <;> omega) hx

set_option maxRecDepth 100000 in
set_option maxHeartbeats 4000000 in
theorem law_small (a0 : Option Addr) (rows0 : List (List Int)) (c0 : Nat) (a1 : Option Addr) (zs1 : List Int) (c1 : Nat) (r0 : Bool) (ok : Bool) (w : World) (hr0 : grid.Reads w a0 rows0) (hr1 : ints.Reads .i64 w a1 zs1) (h0 : zs1.length ≤ 1048576) (h1 : (rows0.length : Int) + (grid.tot rows0 : Int) ≤ 1048576) 
    (HSpec : Hid (∀ (a0 : Option Addr) (c0 : Nat) (a1 : Option Addr) (c1 : Nat) (w : World), grid.Reads w a0 rows0 → ints.Reads .i64 w a1 zs1 → Calls Try.prog 29 #[.slice a0 rows0.length c0, .slice a1 zs1.length c1] w (RetBB r0 ok w)))
    (HImpl : Hid (∀ (a0 : Option Addr) (c0 : Nat) (a1 : Option Addr) (c1 : Nat) (w : World), grid.Reads w a0 rows0 → ints.Reads .i64 w a1 zs1 → Calls Try.prog 30 #[.slice a0 rows0.length c0, .slice a1 zs1.length c1] w (RetBB r0 ok w))) :
    Calls Try.prog 6 #[.slice a0 rows0.length c0, .slice a1 zs1.length c1] w fun e w' => e = .returned (.bool true) ∧ Below w.heap.size w w' := by
  have HR0 := Lib.hid hr0
  have HR1 := Lib.hid hr1
  clear hr0 hr1
  go_enter Try.func6, Try.ntmps6
  go_wp2_with fail
  have HB0 := Lib.hid (Below.refl w.heap.size w)
  have s0 : w.heap.size ≤ w.heap.size := Nat.le_refl _
  refine (gridfns.sz_yes _ rows0 _ _ _ (HR0.out.below HB0.out) (by omega) (by omega)).mono ?_
  rintro e w' ⟨rfl, rfl⟩
  go_wp2_with fail
  refine (gridfns.to_any a0 rows0 c0 _ (HR0.out.below HB0.out) (by omega)).mono ?_
  rintro e w1 ⟨v, rfl, ho, hb⟩
  obtain ⟨s0a, s0c, rfl, _, _, _⟩ := ho.slice
  have s1 : w.heap.size ≤ w1.heap.size := hb.size
  have HB1 := Lib.hid (HB0.out.trans (hb.mono (by omega)))
  clear hb
  have Os0 := Lib.hid ho
  clear ho
  go_wp2_with fail
  refine (intfns.to_any a1 zs1 c1 _ (HR1.out.below HB1.out) (by omega)).mono ?_
  rintro e w2 ⟨v, rfl, ho, hb⟩
  obtain ⟨s1a, s1c, rfl, _, _, _⟩ := ho.slice
  have s2 : w1.heap.size ≤ w2.heap.size := hb.size
  have HB2 := Lib.hid (HB1.out.trans (hb.mono (by omega)))
  replace Os0 := Lib.hid (Os0.out.below hb)
  clear hb
  have Os1 := Lib.hid ho
  clear ho
  go_wp2_with fail
  refine (HSpec.out _ _ _ _ _ Os0.out.reads Os1.out.reads).mono ?_
  rintro e w3 ⟨rfl, hb⟩
  have s3 : w2.heap.size ≤ w3.heap.size := hb.size
  have HB3 := Lib.hid (HB2.out.trans (hb.mono (by omega)))
  replace Os0 := Lib.hid (Os0.out.below hb)
  replace Os1 := Lib.hid (Os1.out.below hb)
  clear hb
  clear Os0
  clear Os1
  go_wp2_with fail
  refine (gridfns.to_any a0 rows0 c0 _ (HR0.out.below HB3.out) (by omega)).mono ?_
  rintro e w4 ⟨v, rfl, ho, hb⟩
  obtain ⟨x0a, x0c, rfl, _, _, _⟩ := ho.slice
  have s4 : w3.heap.size ≤ w4.heap.size := hb.size
  have HB4 := Lib.hid (HB3.out.trans (hb.mono (by omega)))
  clear hb
  have Ox0 := Lib.hid ho
  clear ho
  go_wp2_with fail
  refine (intfns.to_any a1 zs1 c1 _ (HR1.out.below HB4.out) (by omega)).mono ?_
  rintro e w5 ⟨v, rfl, ho, hb⟩
  obtain ⟨x1a, x1c, rfl, _, _, _⟩ := ho.slice
  have s5 : w4.heap.size ≤ w5.heap.size := hb.size
  have HB5 := Lib.hid (HB4.out.trans (hb.mono (by omega)))
  replace Ox0 := Lib.hid (Ox0.out.below hb)
  clear hb
  have Ox1 := Lib.hid ho
  clear ho
  go_wp2_with fail
  refine (HImpl.out _ _ _ _ _ Ox0.out.reads Ox1.out.reads).mono ?_
  rintro e w6 ⟨rfl, hb⟩
  have s6 : w5.heap.size ≤ w6.heap.size := hb.size
  have HB6 := Lib.hid (HB5.out.trans (hb.mono (by omega)))
  replace Ox0 := Lib.hid (Ox0.out.below hb)
  replace Ox1 := Lib.hid (Ox1.out.below hb)
  clear hb
  go_wp2_with fail
  refine (gridfns.to_any a0 rows0 c0 _ (HR0.out.below HB6.out) (by omega)).mono ?_
  rintro e w7 ⟨v, rfl, ho, hb⟩
  obtain ⟨q0a, q0c, rfl, _, _, _⟩ := ho.slice
  have s7 : w6.heap.size ≤ w7.heap.size := hb.size
  have HB7 := Lib.hid (HB6.out.trans (hb.mono (by omega)))
  replace Ox0 := Lib.hid (Ox0.out.below hb)
  replace Ox1 := Lib.hid (Ox1.out.below hb)
  clear hb
  have Oq0 := Lib.hid ho
  clear ho
  go_wp2_with fail
  refine (gridfns.eq_same _ _ rows0 _ _ _ Ox0.out.reads Oq0.out.reads (by omega) (fun s hs => by have := grid.len_le_tot rows0 s hs; omega)).mono ?_
  rintro e w8 ⟨rfl, hb⟩
  have s8 : w7.heap.size ≤ w8.heap.size := hb.size
  have HB8 := Lib.hid (HB7.out.trans (hb.mono (by omega)))
  replace Ox0 := Lib.hid (Ox0.out.below hb)
  replace Ox1 := Lib.hid (Ox1.out.below hb)
  replace Oq0 := Lib.hid (Oq0.out.below hb)
  clear hb
  clear Oq0
  go_wp2_with fail
  refine (intfns.to_any a1 zs1 c1 _ (HR1.out.below HB8.out) (by omega)).mono ?_
  rintro e w9 ⟨v, rfl, ho, hb⟩
  obtain ⟨q1a, q1c, rfl, _, _, _⟩ := ho.slice
  have s9 : w8.heap.size ≤ w9.heap.size := hb.size
  have HB9 := Lib.hid (HB8.out.trans (hb.mono (by omega)))
  replace Ox0 := Lib.hid (Ox0.out.below hb)
  replace Ox1 := Lib.hid (Ox1.out.below hb)
  clear hb
  have Oq1 := Lib.hid ho
  clear ho
  go_wp2_with fail
  refine (intfns.eq_same _ _ zs1 _ _ _ Ox1.out.reads Oq1.out.reads (by omega)).mono ?_
  rintro e w10 ⟨rfl, hb⟩
  have s10 : w9.heap.size ≤ w10.heap.size := hb.size
  have HB10 := Lib.hid (HB9.out.trans (hb.mono (by omega)))
  replace Ox0 := Lib.hid (Ox0.out.below hb)
  replace Ox1 := Lib.hid (Ox1.out.below hb)
  replace Oq1 := Lib.hid (Oq1.out.below hb)
  clear hb
  clear Oq1
  go_wp2_with fail
  go_ret
  exact ⟨rfl, HB10.out⟩
end Go.Proofs.Ytncidajjeccbkaa.fnExactShattersSetw
