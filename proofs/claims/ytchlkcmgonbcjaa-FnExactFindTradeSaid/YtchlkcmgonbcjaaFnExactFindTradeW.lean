/- The walk of FnExactFindTrade, from what the model's function and the program's return. -/
import Derived.Test.YtchlkcmgonbcjaaIntFns
import Derived.Test.YtchlkcmgonbcjaaOwnG
import Derived.Deep.RegionHeld3
namespace Go.Proofs.Ytchlkcmgonbcjaa.fnExactFindTradew
open Go.RowKit own
set_option linter.unusedVariables false
set_option linter.unusedSimpArgs false

set_option maxHeartbeats 1000000 in
theorem exit_len1 (n0 : Int) (a1 : Option Addr) (zs1 : List Int) (c1 : Nat) (w : World) (hr1 : ints.Reads .i64 w a1 zs1)  (hl1 : zs1.length ≤ 9223372036854775807)  (h1 : 1048576 < zs1.length) : Calls Try.prog 13 #[.int .i64 n0, .slice a1 zs1.length c1] w fun e w' => e = .returned (.bool true) ∧ Below w.heap.size w w' := by
  have HR1 := Lib.hid hr1
  clear hr1
  go_enter Try.func13, Try.ntmps13
  go_wp2_with fail
  go_ret
  exact ⟨rfl, by first | exact Below.refl _ _ | exact (Below.refl _ _).alloc (Nat.le_refl _) _ | exact ((Below.refl _ _).alloc (Nat.le_refl _) _).alloc (by simp) _⟩

theorem law_big (n0 : Int) (a1 : Option Addr) (zs1 : List Int) (c1 : Nat) (w : World) (hr1 : ints.Reads .i64 w a1 zs1)  (hl1 : zs1.length ≤ 9223372036854775807) (hx : ¬ (zs1.length ≤ 1048576)) : Calls Try.prog 13 #[.int .i64 n0, .slice a1 zs1.length c1] w fun e w' => e = .returned (.bool true) ∧ Below w.heap.size w w' := by
  by_cases g1 : 1048576 < zs1.length
  · exact exit_len1 n0 a1 zs1 c1 w hr1 hl1  g1
  · exact absurd (by omega) hx

set_option maxRecDepth 100000 in
set_option maxHeartbeats 4000000 in
theorem law_small (n0 : Int) (a1 : Option Addr) (zs1 : List Int) (c1 : Nat) (r0 : List Int) (ok : Bool) (w : World) (hr1 : ints.Reads .i64 w a1 zs1) (h0 : zs1.length ≤ 1048576) (hz0 : r0.length ≤ 1048576)
    (HSpec : Hid (∀ (a1 : Option Addr) (c1 : Nat) (w : World), ints.Reads .i64 w a1 zs1 → Calls Try.prog 39 #[.int .i64 n0, .slice a1 zs1.length c1] w (RetIB r0 ok w)))
    (HImpl : Hid (∀ (a1 : Option Addr) (c1 : Nat) (w : World), ints.Reads .i64 w a1 zs1 → Calls Try.prog 40 #[.int .i64 n0, .slice a1 zs1.length c1] w (RetIB r0 ok w))) :
    Calls Try.prog 13 #[.int .i64 n0, .slice a1 zs1.length c1] w fun e w' => e = .returned (.bool true) ∧ Below w.heap.size w w' := by
  have HR1 := Lib.hid hr1
  clear hr1
  go_enter Try.func13, Try.ntmps13
  go_wp2_with fail
  have HB0 := Lib.hid (Below.refl w.heap.size w)
  have s0 : w.heap.size ≤ w.heap.size := Nat.le_refl _
  refine (intfns.to_any a1 zs1 c1 _ (HR1.out.below HB0.out) (by omega)).mono ?_
  rintro e w1 ⟨v, rfl, ho, hb⟩
  obtain ⟨s1a, s1c, rfl, _, _, _⟩ := ho.slice
  have s1 : w.heap.size ≤ w1.heap.size := hb.size
  have HB1 := Lib.hid (HB0.out.trans (hb.mono (by omega)))
  clear hb
  have Os1 := Lib.hid ho
  clear ho
  go_wp2_with fail
  refine (HSpec.out _ _ _ Os1.out.reads).mono ?_
  rintro e w2 ⟨v, rfl, ho, hb⟩
  obtain ⟨va, vc, rfl, _, _, _⟩ := ho.slice
  have s2 : w1.heap.size ≤ w2.heap.size := hb.size
  have HB2 := Lib.hid (HB1.out.trans (hb.mono (by omega)))
  replace Os1 := Lib.hid (Os1.out.below hb)
  clear hb
  have Ov := Lib.hid ho
  clear ho
  clear Os1
  go_wp2_with fail
  refine (intfns.to_any a1 zs1 c1 _ (HR1.out.below HB2.out) (by omega)).mono ?_
  rintro e w3 ⟨v, rfl, ho, hb⟩
  obtain ⟨x1a, x1c, rfl, _, _, _⟩ := ho.slice
  have s3 : w2.heap.size ≤ w3.heap.size := hb.size
  have HB3 := Lib.hid (HB2.out.trans (hb.mono (by omega)))
  replace Ov := Lib.hid (Ov.out.below hb)
  clear hb
  have Ox1 := Lib.hid ho
  clear ho
  go_wp2_with fail
  refine (HImpl.out _ _ _ Ox1.out.reads).mono ?_
  rintro e w4 ⟨v, rfl, ho, hb⟩
  obtain ⟨ga, gc, rfl, _, _, _⟩ := ho.slice
  have s4 : w3.heap.size ≤ w4.heap.size := hb.size
  have HB4 := Lib.hid (HB3.out.trans (hb.mono (by omega)))
  replace Ov := Lib.hid (Ov.out.below hb)
  replace Ox1 := Lib.hid (Ox1.out.below hb)
  clear hb
  have Og := Lib.hid ho
  clear ho
  go_wp2_with fail
  refine (intfns.eq_same _ _ r0 _ _ _ Og.out.reads Ov.out.reads (by omega)).mono ?_
  rintro e w5 ⟨rfl, hb⟩
  have s5 : w4.heap.size ≤ w5.heap.size := hb.size
  have HB5 := Lib.hid (HB4.out.trans (hb.mono (by omega)))
  replace Ov := Lib.hid (Ov.out.below hb)
  replace Ox1 := Lib.hid (Ox1.out.below hb)
  replace Og := Lib.hid (Og.out.below hb)
  clear hb
  go_wp2_with fail
  refine (intfns.to_any a1 zs1 c1 _ (HR1.out.below HB5.out) (by omega)).mono ?_
  rintro e w6 ⟨v, rfl, ho, hb⟩
  obtain ⟨q1a, q1c, rfl, _, _, _⟩ := ho.slice
  have s6 : w5.heap.size ≤ w6.heap.size := hb.size
  have HB6 := Lib.hid (HB5.out.trans (hb.mono (by omega)))
  replace Ov := Lib.hid (Ov.out.below hb)
  replace Ox1 := Lib.hid (Ox1.out.below hb)
  replace Og := Lib.hid (Og.out.below hb)
  clear hb
  have Oq1 := Lib.hid ho
  clear ho
  go_wp2_with fail
  refine (intfns.eq_same _ _ zs1 _ _ _ Ox1.out.reads Oq1.out.reads (by omega)).mono ?_
  rintro e w7 ⟨rfl, hb⟩
  have s7 : w6.heap.size ≤ w7.heap.size := hb.size
  have HB7 := Lib.hid (HB6.out.trans (hb.mono (by omega)))
  replace Ov := Lib.hid (Ov.out.below hb)
  replace Ox1 := Lib.hid (Ox1.out.below hb)
  replace Og := Lib.hid (Og.out.below hb)
  replace Oq1 := Lib.hid (Oq1.out.below hb)
  clear hb
  clear Oq1
  go_wp2_with fail
  refine (intfns.mark_any (w2.heap.size) (w3.heap.size) _ _ zs1 (1) _ Ox1.out (by omega)).mono ?_
  rintro e w8 ⟨rfl, ho, hg⟩
  have hb : Only (w2.heap.size) (w3.heap.size) w7 w8 := Only.of_grown (hg _ rfl) fun g hg => ⟨(Ox1.out.lt hg).1, (Ox1.out.lt hg).2.1⟩
  clear hg
  have s8 : w7.heap.size ≤ w8.heap.size := hb.size
  have HB8 := Lib.hid (HB7.out.trans ((hb.below (by omega)).mono (by omega)))
  replace Ov := Lib.hid (Ov.out.only hb (by omega))
  replace Og := Lib.hid (Og.out.only hb (by omega))
  clear hb
  replace Ox1 := Lib.hid ho
  clear ho
  go_wp2_with fail
  refine (intfns.eq_same _ _ r0 _ _ _ Og.out.reads Ov.out.reads (by omega)).mono ?_
  rintro e w9 ⟨rfl, hb⟩
  have s9 : w8.heap.size ≤ w9.heap.size := hb.size
  have HB9 := Lib.hid (HB8.out.trans (hb.mono (by omega)))
  replace Ov := Lib.hid (Ov.out.below hb)
  replace Ox1 := Lib.hid (Ox1.out.below hb)
  replace Og := Lib.hid (Og.out.below hb)
  clear hb
  go_wp2_with fail
  clear Ox1
  refine (intfns.mark_any (w3.heap.size) (w4.heap.size) _ _ r0 (1) _ Og.out (by omega)).mono ?_
  rintro e w10 ⟨rfl, ho, hg⟩
  have hb : Only (w3.heap.size) (w4.heap.size) w9 w10 := Only.of_grown (hg _ rfl) fun g hg => ⟨(Og.out.lt hg).1, (Og.out.lt hg).2.1⟩
  clear hg
  have s10 : w9.heap.size ≤ w10.heap.size := hb.size
  have HB10 := Lib.hid (HB9.out.trans ((hb.below (by omega)).mono (by omega)))
  replace Ov := Lib.hid (Ov.out.only hb (by omega))
  clear hb
  replace Og := Lib.hid ho
  clear ho
  go_wp2_with fail
  refine (intfns.held_any _ _ r0.length (1) _ Og.out.reads (by omega)).mono ?_
  rintro e w11 ⟨rfl, hb⟩
  have s11 : w10.heap.size ≤ w11.heap.size := hb.size
  have HB11 := Lib.hid (HB10.out.trans (hb.mono (by omega)))
  replace Ov := Lib.hid (Ov.out.below hb)
  replace Og := Lib.hid (Og.out.below hb)
  clear hb
  go_wp2_with fail
  refine (intfns.to_any a1 zs1 c1 _ (HR1.out.below HB11.out) (by omega)).mono ?_
  rintro e w12 ⟨v, rfl, ho, hb⟩
  obtain ⟨h1a, h1c, rfl, _, _, _⟩ := ho.slice
  have s12 : w11.heap.size ≤ w12.heap.size := hb.size
  have HB12 := Lib.hid (HB11.out.trans (hb.mono (by omega)))
  replace Ov := Lib.hid (Ov.out.below hb)
  replace Og := Lib.hid (Og.out.below hb)
  clear hb
  have Oh1 := Lib.hid ho
  clear ho
  go_wp2_with fail
  refine (HImpl.out _ _ _ Oh1.out.reads).mono ?_
  rintro e w13 ⟨v, rfl, ho, hb⟩
  obtain ⟨ha, hc, rfl, _, _, _⟩ := ho.slice
  have s13 : w12.heap.size ≤ w13.heap.size := hb.size
  have HB13 := Lib.hid (HB12.out.trans (hb.mono (by omega)))
  replace Ov := Lib.hid (Ov.out.below hb)
  replace Og := Lib.hid (Og.out.below hb)
  replace Oh1 := Lib.hid (Oh1.out.below hb)
  clear hb
  have Oh := Lib.hid ho
  clear ho
  clear Oh1
  go_wp2_with fail
  refine (intfns.eq_same _ _ r0 _ _ _ Oh.out.reads Ov.out.reads (by omega)).mono ?_
  rintro e w14 ⟨rfl, hb⟩
  have s14 : w13.heap.size ≤ w14.heap.size := hb.size
  have HB14 := Lib.hid (HB13.out.trans (hb.mono (by omega)))
  replace Ov := Lib.hid (Ov.out.below hb)
  replace Og := Lib.hid (Og.out.below hb)
  replace Oh := Lib.hid (Oh.out.below hb)
  clear hb
  go_wp2_with fail
  refine (intfns.held_any _ _ r0.length (1) _ Og.out.reads (by omega)).mono ?_
  rintro e w15 ⟨rfl, hb⟩
  have s15 : w14.heap.size ≤ w15.heap.size := hb.size
  have HB15 := Lib.hid (HB14.out.trans (hb.mono (by omega)))
  replace Ov := Lib.hid (Ov.out.below hb)
  replace Og := Lib.hid (Og.out.below hb)
  replace Oh := Lib.hid (Oh.out.below hb)
  clear hb
  go_wp2_with fail
  go_ret
  exact ⟨rfl, HB15.out⟩
end Go.Proofs.Ytchlkcmgonbcjaa.fnExactFindTradew
