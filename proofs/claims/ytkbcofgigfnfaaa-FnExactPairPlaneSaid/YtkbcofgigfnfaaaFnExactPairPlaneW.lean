/- The walk of FnExactPairPlane, from what the model's function and the program's return. -/
import Derived.Test.YtkbcofgigfnfaaaPlaneFns
import Derived.Test.YtkbcofgigfnfaaaIntFns
import Derived.Test.YtkbcofgigfnfaaaOwnG
import Derived.Deep.RegionHeld3
namespace Go.Proofs.Ytkbcofgigfnfaaa.fnExactPairPlanew
open Go.RowKit own
set_option linter.unusedVariables false
set_option linter.unusedSimpArgs false

set_option maxHeartbeats 1000000 in
theorem exit_len0 (a0 : Option Addr) (zs0 : List Int) (c0 : Nat) (a1 : Option Addr) (zs1 : List Int) (c1 : Nat) (w : World) (hr0 : ints.Reads .i64 w a0 zs0) (hr1 : ints.Reads .i64 w a1 zs1) (hl0 : zs0.length ≤ 9223372036854775807) (hl1 : zs1.length ≤ 9223372036854775807)  (h0 : 1048576 < zs0.length) : Calls Try.prog 7 #[.slice a0 zs0.length c0, .slice a1 zs1.length c1] w fun e w' => e = .returned (.bool true) ∧ Below w.heap.size w w' := by
  have HR0 := Lib.hid hr0
  have HR1 := Lib.hid hr1
  clear hr0 hr1
  go_enter Try.func7, Try.ntmps7
  go_wp2_with fail
  go_ret
  exact ⟨rfl, by first | exact Below.refl _ _ | exact (Below.refl _ _).alloc (Nat.le_refl _) _ | exact ((Below.refl _ _).alloc (Nat.le_refl _) _).alloc (by simp) _ | exact (((Below.refl _ _).alloc (Nat.le_refl _) _).alloc (by simp) _).alloc (by simp; omega) _⟩

set_option maxHeartbeats 1000000 in
theorem exit_len1 (a0 : Option Addr) (zs0 : List Int) (c0 : Nat) (a1 : Option Addr) (zs1 : List Int) (c1 : Nat) (w : World) (hr0 : ints.Reads .i64 w a0 zs0) (hr1 : ints.Reads .i64 w a1 zs1) (hl0 : zs0.length ≤ 9223372036854775807) (hl1 : zs1.length ≤ 9223372036854775807) (h0 : zs0.length ≤ 1048576) (h1 : 1048576 < zs1.length) : Calls Try.prog 7 #[.slice a0 zs0.length c0, .slice a1 zs1.length c1] w fun e w' => e = .returned (.bool true) ∧ Below w.heap.size w w' := by
  have HR0 := Lib.hid hr0
  have HR1 := Lib.hid hr1
  clear hr0 hr1
  go_enter Try.func7, Try.ntmps7
  go_wp2_with fail
  go_ret
  exact ⟨rfl, by first | exact Below.refl _ _ | exact (Below.refl _ _).alloc (Nat.le_refl _) _ | exact ((Below.refl _ _).alloc (Nat.le_refl _) _).alloc (by simp) _ | exact (((Below.refl _ _).alloc (Nat.le_refl _) _).alloc (by simp) _).alloc (by simp; omega) _⟩

theorem law_big (a0 : Option Addr) (zs0 : List Int) (c0 : Nat) (a1 : Option Addr) (zs1 : List Int) (c1 : Nat) (w : World) (hr0 : ints.Reads .i64 w a0 zs0) (hr1 : ints.Reads .i64 w a1 zs1) (hl0 : zs0.length ≤ 9223372036854775807) (hl1 : zs1.length ≤ 9223372036854775807) (hx : ¬ (zs0.length ≤ 1048576 ∧ zs1.length ≤ 1048576)) : Calls Try.prog 7 #[.slice a0 zs0.length c0, .slice a1 zs1.length c1] w fun e w' => e = .returned (.bool true) ∧ Below w.heap.size w w' := by
  by_cases g0 : 1048576 < zs0.length
  · exact exit_len0 a0 zs0 c0 a1 zs1 c1 w hr0 hr1 hl0 hl1  g0
  by_cases g1 : 1048576 < zs1.length
  · exact exit_len1 a0 zs0 c0 a1 zs1 c1 w hr0 hr1 hl0 hl1 (by omega) g1
  · exact absurd (by refine ⟨?_, ?_⟩ <;> omega) hx

set_option maxRecDepth 100000 in
set_option maxHeartbeats 4000000 in
theorem law_small (a0 : Option Addr) (zs0 : List Int) (c0 : Nat) (a1 : Option Addr) (zs1 : List Int) (c1 : Nat) (r0 : List Int) (rb0 : Int) (ok : Bool) (w : World) (hr0 : ints.Reads .i64 w a0 zs0) (hr1 : ints.Reads .i64 w a1 zs1) (h0 : zs0.length ≤ 1048576) (h1 : zs1.length ≤ 1048576) (hz0 : r0.length ≤ 1048576)
    (HSpec : Hid (∀ (a0 : Option Addr) (c0 : Nat) (a1 : Option Addr) (c1 : Nat) (w : World), ints.Reads .i64 w a0 zs0 → ints.Reads .i64 w a1 zs1 → Calls Try.prog 31 #[.slice a0 zs0.length c0, .slice a1 zs1.length c1] w (RetPB r0 rb0 ok w)))
    (HImpl : Hid (∀ (a0 : Option Addr) (c0 : Nat) (a1 : Option Addr) (c1 : Nat) (w : World), ints.Reads .i64 w a0 zs0 → ints.Reads .i64 w a1 zs1 → Calls Try.prog 32 #[.slice a0 zs0.length c0, .slice a1 zs1.length c1] w (RetPB r0 rb0 ok w))) :
    Calls Try.prog 7 #[.slice a0 zs0.length c0, .slice a1 zs1.length c1] w fun e w' => e = .returned (.bool true) ∧ Below w.heap.size w w' := by
  have HR0 := Lib.hid hr0
  have HR1 := Lib.hid hr1
  clear hr0 hr1
  go_enter Try.func7, Try.ntmps7
  go_wp2_with fail
  have HB0 := Lib.hid (Below.refl w.heap.size w)
  have s0 : w.heap.size ≤ w.heap.size := Nat.le_refl _
  refine (intfns.to_any a0 zs0 c0 _ (HR0.out.below HB0.out) (by omega)).mono ?_
  rintro e w1 ⟨v, rfl, ho, hb⟩
  obtain ⟨s0a, s0c, rfl, _, _, _⟩ := ho.slice
  have s1 : w.heap.size ≤ w1.heap.size := hb.size
  have HB1 := Lib.hid (HB0.out.trans (hb.mono (by omega)))
  clear hb
  have Os0 := Lib.hid ho
  clear ho
  go_wp2_with fail
  refine (intfns.to_any a1 zs1 c1 _ (HR1.out.below HB1.out) (by omega)).mono ?_
  rintro e w2 ⟨v, rfl, ho, hb⟩
  obtain ⟨s1a, s1c, rfl, _, _, _⟩ := ho.slice
  have s2 : w1.heap.size ≤ w2.heap.size := hb.size
  have HB2 := Lib.hid (HB1.out.trans (hb.mono (by omega)))
  replace Os0 := Lib.hid (Os0.out.below hb)
  clear hb
  have Os1 := Lib.hid ho
  clear ho
  go_wp2_with fail
  refine (HSpec.out _ _ _ _ _ Os0.out.reads Os1.out.reads).mono ?_
  rintro e w3 ⟨v, rfl, ho, hb⟩
  obtain ⟨va, vc, rfl, _, _, _⟩ := ho.slice
  have s3 : w2.heap.size ≤ w3.heap.size := hb.size
  have HB3 := Lib.hid (HB2.out.trans (hb.mono (by omega)))
  replace Os0 := Lib.hid (Os0.out.below hb)
  replace Os1 := Lib.hid (Os1.out.below hb)
  clear hb
  have Ov := Lib.hid ho
  clear ho
  clear Os0
  clear Os1
  go_wp2_with fail
  have yv_0 : (w3.alloc (.cells #[.slice va r0.length vc, .int .i64 rb0] 45)).cell? ⟨w3.heap.size, 0, none⟩ = some (.slice va r0.length vc) := cell_new _ _ _ rfl rfl
  have yv_1 : (w3.alloc (.cells #[.slice va r0.length vc, .int .i64 rb0] 45)).cell? ⟨w3.heap.size, 1, none⟩ = some (.int .i64 rb0) := cell_new _ _ _ rfl rfl
  have hb := below_alloc w3 (.cells #[.slice va r0.length vc, .int .i64 rb0] 45)
  have z4 := size_alloc' w3 (.cells #[.slice va r0.length vc, .int .i64 rb0] 45)
  generalize hw : w3.alloc (.cells #[.slice va r0.length vc, .int .i64 rb0] 45) = w4 at *
  clear hw
  have s4 : w3.heap.size ≤ w4.heap.size := hb.size
  have HB4 := Lib.hid (HB3.out.trans (hb.mono (by omega)))
  replace Ov := Lib.hid (Ov.out.below hb)
  clear hb
  refine (intfns.to_any a0 zs0 c0 _ (HR0.out.below HB4.out) (by omega)).mono ?_
  rintro e w5 ⟨v, rfl, ho, hb⟩
  obtain ⟨x0a, x0c, rfl, _, _, _⟩ := ho.slice
  have s5 : w4.heap.size ≤ w5.heap.size := hb.size
  have n5_0 : w3.heap.size < w5.heap.size := by omega
  replace yv_0 := cell_below hb yv_0 (by omega)
  replace yv_1 := cell_below hb yv_1 (by omega)
  have HB5 := Lib.hid (HB4.out.trans (hb.mono (by omega)))
  replace Ov := Lib.hid (Ov.out.below hb)
  clear hb
  have Ox0 := Lib.hid ho
  clear ho
  go_wp2_with fail
  refine (intfns.to_any a1 zs1 c1 _ (HR1.out.below HB5.out) (by omega)).mono ?_
  rintro e w6 ⟨v, rfl, ho, hb⟩
  obtain ⟨x1a, x1c, rfl, _, _, _⟩ := ho.slice
  have s6 : w5.heap.size ≤ w6.heap.size := hb.size
  have n6_0 : w3.heap.size < w6.heap.size := by omega
  replace yv_0 := cell_below hb yv_0 (by omega)
  replace yv_1 := cell_below hb yv_1 (by omega)
  have HB6 := Lib.hid (HB5.out.trans (hb.mono (by omega)))
  replace Ov := Lib.hid (Ov.out.below hb)
  replace Ox0 := Lib.hid (Ox0.out.below hb)
  clear hb
  have Ox1 := Lib.hid ho
  clear ho
  go_wp2_with fail
  refine (HImpl.out _ _ _ _ _ Ox0.out.reads Ox1.out.reads).mono ?_
  rintro e w7 ⟨v, rfl, ho, hb⟩
  obtain ⟨ga, gc, rfl, _, _, _⟩ := ho.slice
  have s7 : w6.heap.size ≤ w7.heap.size := hb.size
  have n7_0 : w3.heap.size < w7.heap.size := by omega
  replace yv_0 := cell_below hb yv_0 (by omega)
  replace yv_1 := cell_below hb yv_1 (by omega)
  have HB7 := Lib.hid (HB6.out.trans (hb.mono (by omega)))
  replace Ov := Lib.hid (Ov.out.below hb)
  replace Ox0 := Lib.hid (Ox0.out.below hb)
  replace Ox1 := Lib.hid (Ox1.out.below hb)
  clear hb
  have Og := Lib.hid ho
  clear ho
  go_wp2_with fail
  have yg_0 : (w7.alloc (.cells #[.slice ga r0.length gc, .int .i64 rb0] 45)).cell? ⟨w7.heap.size, 0, none⟩ = some (.slice ga r0.length gc) := cell_new _ _ _ rfl rfl
  have yg_1 : (w7.alloc (.cells #[.slice ga r0.length gc, .int .i64 rb0] 45)).cell? ⟨w7.heap.size, 1, none⟩ = some (.int .i64 rb0) := cell_new _ _ _ rfl rfl
  have hb := below_alloc w7 (.cells #[.slice ga r0.length gc, .int .i64 rb0] 45)
  have z8 := size_alloc' w7 (.cells #[.slice ga r0.length gc, .int .i64 rb0] 45)
  generalize hw : w7.alloc (.cells #[.slice ga r0.length gc, .int .i64 rb0] 45) = w8 at *
  clear hw
  have s8 : w7.heap.size ≤ w8.heap.size := hb.size
  have n8_0 : w3.heap.size < w8.heap.size := by omega
  replace yv_0 := cell_below hb yv_0 (by omega)
  replace yv_1 := cell_below hb yv_1 (by omega)
  have HB8 := Lib.hid (HB7.out.trans (hb.mono (by omega)))
  replace Ov := Lib.hid (Ov.out.below hb)
  replace Ox0 := Lib.hid (Ox0.out.below hb)
  replace Ox1 := Lib.hid (Ox1.out.below hb)
  replace Og := Lib.hid (Og.out.below hb)
  clear hb
  refine (planefns.eq_same _ _ r0 _ _ rb0 _ Og.out.reads Ov.out.reads (by omega)).mono ?_
  rintro e w9 ⟨rfl, hb⟩
  have s9 : w8.heap.size ≤ w9.heap.size := hb.size
  have n9_0 : w3.heap.size < w9.heap.size := by omega
  have n9_1 : w7.heap.size < w9.heap.size := by omega
  replace yv_0 := cell_below hb yv_0 (by omega)
  replace yv_1 := cell_below hb yv_1 (by omega)
  replace yg_0 := cell_below hb yg_0 (by omega)
  replace yg_1 := cell_below hb yg_1 (by omega)
  have HB9 := Lib.hid (HB8.out.trans (hb.mono (by omega)))
  replace Ov := Lib.hid (Ov.out.below hb)
  replace Ox0 := Lib.hid (Ox0.out.below hb)
  replace Ox1 := Lib.hid (Ox1.out.below hb)
  replace Og := Lib.hid (Og.out.below hb)
  clear hb
  go_wp2_with fail
  refine (intfns.to_any a0 zs0 c0 _ (HR0.out.below HB9.out) (by omega)).mono ?_
  rintro e w10 ⟨v, rfl, ho, hb⟩
  obtain ⟨q0a, q0c, rfl, _, _, _⟩ := ho.slice
  have s10 : w9.heap.size ≤ w10.heap.size := hb.size
  have n10_0 : w3.heap.size < w10.heap.size := by omega
  have n10_1 : w7.heap.size < w10.heap.size := by omega
  replace yv_0 := cell_below hb yv_0 (by omega)
  replace yv_1 := cell_below hb yv_1 (by omega)
  replace yg_0 := cell_below hb yg_0 (by omega)
  replace yg_1 := cell_below hb yg_1 (by omega)
  have HB10 := Lib.hid (HB9.out.trans (hb.mono (by omega)))
  replace Ov := Lib.hid (Ov.out.below hb)
  replace Ox0 := Lib.hid (Ox0.out.below hb)
  replace Ox1 := Lib.hid (Ox1.out.below hb)
  replace Og := Lib.hid (Og.out.below hb)
  clear hb
  have Oq0 := Lib.hid ho
  clear ho
  go_wp2_with fail
  refine (intfns.eq_same _ _ zs0 _ _ _ Ox0.out.reads Oq0.out.reads (by omega)).mono ?_
  rintro e w11 ⟨rfl, hb⟩
  have s11 : w10.heap.size ≤ w11.heap.size := hb.size
  have n11_0 : w3.heap.size < w11.heap.size := by omega
  have n11_1 : w7.heap.size < w11.heap.size := by omega
  replace yv_0 := cell_below hb yv_0 (by omega)
  replace yv_1 := cell_below hb yv_1 (by omega)
  replace yg_0 := cell_below hb yg_0 (by omega)
  replace yg_1 := cell_below hb yg_1 (by omega)
  have HB11 := Lib.hid (HB10.out.trans (hb.mono (by omega)))
  replace Ov := Lib.hid (Ov.out.below hb)
  replace Ox0 := Lib.hid (Ox0.out.below hb)
  replace Ox1 := Lib.hid (Ox1.out.below hb)
  replace Og := Lib.hid (Og.out.below hb)
  replace Oq0 := Lib.hid (Oq0.out.below hb)
  clear hb
  clear Oq0
  go_wp2_with fail
  refine (intfns.to_any a1 zs1 c1 _ (HR1.out.below HB11.out) (by omega)).mono ?_
  rintro e w12 ⟨v, rfl, ho, hb⟩
  obtain ⟨q1a, q1c, rfl, _, _, _⟩ := ho.slice
  have s12 : w11.heap.size ≤ w12.heap.size := hb.size
  have n12_0 : w3.heap.size < w12.heap.size := by omega
  have n12_1 : w7.heap.size < w12.heap.size := by omega
  replace yv_0 := cell_below hb yv_0 (by omega)
  replace yv_1 := cell_below hb yv_1 (by omega)
  replace yg_0 := cell_below hb yg_0 (by omega)
  replace yg_1 := cell_below hb yg_1 (by omega)
  have HB12 := Lib.hid (HB11.out.trans (hb.mono (by omega)))
  replace Ov := Lib.hid (Ov.out.below hb)
  replace Ox0 := Lib.hid (Ox0.out.below hb)
  replace Ox1 := Lib.hid (Ox1.out.below hb)
  replace Og := Lib.hid (Og.out.below hb)
  clear hb
  have Oq1 := Lib.hid ho
  clear ho
  go_wp2_with fail
  refine (intfns.eq_same _ _ zs1 _ _ _ Ox1.out.reads Oq1.out.reads (by omega)).mono ?_
  rintro e w13 ⟨rfl, hb⟩
  have s13 : w12.heap.size ≤ w13.heap.size := hb.size
  have n13_0 : w3.heap.size < w13.heap.size := by omega
  have n13_1 : w7.heap.size < w13.heap.size := by omega
  replace yv_0 := cell_below hb yv_0 (by omega)
  replace yv_1 := cell_below hb yv_1 (by omega)
  replace yg_0 := cell_below hb yg_0 (by omega)
  replace yg_1 := cell_below hb yg_1 (by omega)
  have HB13 := Lib.hid (HB12.out.trans (hb.mono (by omega)))
  replace Ov := Lib.hid (Ov.out.below hb)
  replace Ox0 := Lib.hid (Ox0.out.below hb)
  replace Ox1 := Lib.hid (Ox1.out.below hb)
  replace Og := Lib.hid (Og.out.below hb)
  replace Oq1 := Lib.hid (Oq1.out.below hb)
  clear hb
  clear Oq1
  go_wp2_with fail
  refine (intfns.mark_any (w4.heap.size) (w5.heap.size) _ _ zs0 (1) _ Ox0.out (by omega)).mono ?_
  rintro e w14 ⟨rfl, ho, hg⟩
  have hb : Only (w4.heap.size) (w5.heap.size) w13 w14 := Only.of_grown (hg _ rfl) fun g hg => ⟨(Ox0.out.lt hg).1, (Ox0.out.lt hg).2.1⟩
  clear hg
  have s14 : w13.heap.size ≤ w14.heap.size := hb.size
  have n14_0 : w3.heap.size < w14.heap.size := by omega
  have n14_1 : w7.heap.size < w14.heap.size := by omega
  replace yv_0 := hb.cell yv_0 (by omega) (by omega)
  replace yv_1 := hb.cell yv_1 (by omega) (by omega)
  replace yg_0 := hb.cell yg_0 (by omega) (by omega)
  replace yg_1 := hb.cell yg_1 (by omega) (by omega)
  have HB14 := Lib.hid (HB13.out.trans ((hb.below (by omega)).mono (by omega)))
  replace Ov := Lib.hid (Ov.out.only hb (by omega))
  replace Ox1 := Lib.hid (Ox1.out.only hb (by omega))
  replace Og := Lib.hid (Og.out.only hb (by omega))
  clear hb
  replace Ox0 := Lib.hid ho
  clear ho
  go_wp2_with fail
  refine (intfns.mark_any (w5.heap.size) (w6.heap.size) _ _ zs1 (1 + zs0.length) _ Ox1.out (by omega)).mono ?_
  rintro e w15 ⟨rfl, ho, hg⟩
  have hb : Only (w5.heap.size) (w6.heap.size) w14 w15 := Only.of_grown (hg _ rfl) fun g hg => ⟨(Ox1.out.lt hg).1, (Ox1.out.lt hg).2.1⟩
  clear hg
  have s15 : w14.heap.size ≤ w15.heap.size := hb.size
  have n15_0 : w3.heap.size < w15.heap.size := by omega
  have n15_1 : w7.heap.size < w15.heap.size := by omega
  replace yv_0 := hb.cell yv_0 (by omega) (by omega)
  replace yv_1 := hb.cell yv_1 (by omega) (by omega)
  replace yg_0 := hb.cell yg_0 (by omega) (by omega)
  replace yg_1 := hb.cell yg_1 (by omega) (by omega)
  have HB15 := Lib.hid (HB14.out.trans ((hb.below (by omega)).mono (by omega)))
  replace Ov := Lib.hid (Ov.out.only hb (by omega))
  replace Ox0 := Lib.hid (Ox0.out.only hb (by omega))
  replace Og := Lib.hid (Og.out.only hb (by omega))
  clear hb
  replace Ox1 := Lib.hid ho
  clear ho
  go_wp2_with fail
  refine (planefns.eq_same _ _ r0 _ _ rb0 _ Og.out.reads Ov.out.reads (by omega)).mono ?_
  rintro e w16 ⟨rfl, hb⟩
  have s16 : w15.heap.size ≤ w16.heap.size := hb.size
  have n16_0 : w3.heap.size < w16.heap.size := by omega
  have n16_1 : w7.heap.size < w16.heap.size := by omega
  replace yv_0 := cell_below hb yv_0 (by omega)
  replace yv_1 := cell_below hb yv_1 (by omega)
  replace yg_0 := cell_below hb yg_0 (by omega)
  replace yg_1 := cell_below hb yg_1 (by omega)
  have HB16 := Lib.hid (HB15.out.trans (hb.mono (by omega)))
  replace Ov := Lib.hid (Ov.out.below hb)
  replace Ox0 := Lib.hid (Ox0.out.below hb)
  replace Ox1 := Lib.hid (Ox1.out.below hb)
  replace Og := Lib.hid (Og.out.below hb)
  clear hb
  go_wp2_with fail
  clear Ox0
  clear Ox1
  refine (planefns.mark_any (w6.heap.size) (w7.heap.size) _ _ r0 rb0 (1) _ Og.out (by omega)).mono ?_
  rintro e w17 ⟨rfl, ho, hb⟩
  have s17 : w16.heap.size ≤ w17.heap.size := hb.size
  have n17_0 : w3.heap.size < w17.heap.size := by omega
  have n17_1 : w7.heap.size < w17.heap.size := by omega
  replace yv_0 := hb.cell yv_0 (by omega) (by omega)
  replace yv_1 := hb.cell yv_1 (by omega) (by omega)
  replace yg_0 := hb.cell yg_0 (by omega) (by omega)
  replace yg_1 := hb.cell yg_1 (by omega) (by omega)
  have HB17 := Lib.hid (HB16.out.trans ((hb.below (by omega)).mono (by omega)))
  replace Ov := Lib.hid (Ov.out.only hb (by omega))
  clear hb
  replace Og := Lib.hid ho
  clear ho
  go_wp2_with fail
  refine (planefns.held_any _ _ r0.length (1) _ _ Og.out.reads (by omega)).mono ?_
  rintro e w18 ⟨rfl, hb⟩
  have s18 : w17.heap.size ≤ w18.heap.size := hb.size
  have n18_0 : w3.heap.size < w18.heap.size := by omega
  have n18_1 : w7.heap.size < w18.heap.size := by omega
  replace yv_0 := cell_below hb yv_0 (by omega)
  replace yv_1 := cell_below hb yv_1 (by omega)
  replace yg_0 := cell_below hb yg_0 (by omega)
  replace yg_1 := cell_below hb yg_1 (by omega)
  have HB18 := Lib.hid (HB17.out.trans (hb.mono (by omega)))
  replace Ov := Lib.hid (Ov.out.below hb)
  replace Og := Lib.hid (Og.out.below hb)
  clear hb
  go_wp2_with fail
  refine (intfns.to_any a0 zs0 c0 _ (HR0.out.below HB18.out) (by omega)).mono ?_
  rintro e w19 ⟨v, rfl, ho, hb⟩
  obtain ⟨h0a, h0c, rfl, _, _, _⟩ := ho.slice
  have s19 : w18.heap.size ≤ w19.heap.size := hb.size
  have n19_0 : w3.heap.size < w19.heap.size := by omega
  have n19_1 : w7.heap.size < w19.heap.size := by omega
  replace yv_0 := cell_below hb yv_0 (by omega)
  replace yv_1 := cell_below hb yv_1 (by omega)
  replace yg_0 := cell_below hb yg_0 (by omega)
  replace yg_1 := cell_below hb yg_1 (by omega)
  have HB19 := Lib.hid (HB18.out.trans (hb.mono (by omega)))
  replace Ov := Lib.hid (Ov.out.below hb)
  replace Og := Lib.hid (Og.out.below hb)
  clear hb
  have Oh0 := Lib.hid ho
  clear ho
  go_wp2_with fail
  refine (intfns.to_any a1 zs1 c1 _ (HR1.out.below HB19.out) (by omega)).mono ?_
  rintro e w20 ⟨v, rfl, ho, hb⟩
  obtain ⟨h1a, h1c, rfl, _, _, _⟩ := ho.slice
  have s20 : w19.heap.size ≤ w20.heap.size := hb.size
  have n20_0 : w3.heap.size < w20.heap.size := by omega
  have n20_1 : w7.heap.size < w20.heap.size := by omega
  replace yv_0 := cell_below hb yv_0 (by omega)
  replace yv_1 := cell_below hb yv_1 (by omega)
  replace yg_0 := cell_below hb yg_0 (by omega)
  replace yg_1 := cell_below hb yg_1 (by omega)
  have HB20 := Lib.hid (HB19.out.trans (hb.mono (by omega)))
  replace Ov := Lib.hid (Ov.out.below hb)
  replace Og := Lib.hid (Og.out.below hb)
  replace Oh0 := Lib.hid (Oh0.out.below hb)
  clear hb
  have Oh1 := Lib.hid ho
  clear ho
  go_wp2_with fail
  refine (HImpl.out _ _ _ _ _ Oh0.out.reads Oh1.out.reads).mono ?_
  rintro e w21 ⟨v, rfl, ho, hb⟩
  obtain ⟨ha, hc, rfl, _, _, _⟩ := ho.slice
  have s21 : w20.heap.size ≤ w21.heap.size := hb.size
  have n21_0 : w3.heap.size < w21.heap.size := by omega
  have n21_1 : w7.heap.size < w21.heap.size := by omega
  replace yv_0 := cell_below hb yv_0 (by omega)
  replace yv_1 := cell_below hb yv_1 (by omega)
  replace yg_0 := cell_below hb yg_0 (by omega)
  replace yg_1 := cell_below hb yg_1 (by omega)
  have HB21 := Lib.hid (HB20.out.trans (hb.mono (by omega)))
  replace Ov := Lib.hid (Ov.out.below hb)
  replace Og := Lib.hid (Og.out.below hb)
  replace Oh0 := Lib.hid (Oh0.out.below hb)
  replace Oh1 := Lib.hid (Oh1.out.below hb)
  clear hb
  have Oh := Lib.hid ho
  clear ho
  clear Oh0
  clear Oh1
  go_wp2_with fail
  have yh_0 : (w21.alloc (.cells #[.slice ha r0.length hc, .int .i64 rb0] 45)).cell? ⟨w21.heap.size, 0, none⟩ = some (.slice ha r0.length hc) := cell_new _ _ _ rfl rfl
  have yh_1 : (w21.alloc (.cells #[.slice ha r0.length hc, .int .i64 rb0] 45)).cell? ⟨w21.heap.size, 1, none⟩ = some (.int .i64 rb0) := cell_new _ _ _ rfl rfl
  have hb := below_alloc w21 (.cells #[.slice ha r0.length hc, .int .i64 rb0] 45)
  have z22 := size_alloc' w21 (.cells #[.slice ha r0.length hc, .int .i64 rb0] 45)
  generalize hw : w21.alloc (.cells #[.slice ha r0.length hc, .int .i64 rb0] 45) = w22 at *
  clear hw
  have s22 : w21.heap.size ≤ w22.heap.size := hb.size
  have n22_0 : w3.heap.size < w22.heap.size := by omega
  have n22_1 : w7.heap.size < w22.heap.size := by omega
  replace yv_0 := cell_below hb yv_0 (by omega)
  replace yv_1 := cell_below hb yv_1 (by omega)
  replace yg_0 := cell_below hb yg_0 (by omega)
  replace yg_1 := cell_below hb yg_1 (by omega)
  have HB22 := Lib.hid (HB21.out.trans (hb.mono (by omega)))
  replace Ov := Lib.hid (Ov.out.below hb)
  replace Og := Lib.hid (Og.out.below hb)
  replace Oh := Lib.hid (Oh.out.below hb)
  clear hb
  refine (planefns.eq_same _ _ r0 _ _ rb0 _ Oh.out.reads Ov.out.reads (by omega)).mono ?_
  rintro e w23 ⟨rfl, hb⟩
  have s23 : w22.heap.size ≤ w23.heap.size := hb.size
  have n23_0 : w3.heap.size < w23.heap.size := by omega
  have n23_1 : w7.heap.size < w23.heap.size := by omega
  have n23_2 : w21.heap.size < w23.heap.size := by omega
  replace yv_0 := cell_below hb yv_0 (by omega)
  replace yv_1 := cell_below hb yv_1 (by omega)
  replace yg_0 := cell_below hb yg_0 (by omega)
  replace yg_1 := cell_below hb yg_1 (by omega)
  replace yh_0 := cell_below hb yh_0 (by omega)
  replace yh_1 := cell_below hb yh_1 (by omega)
  have HB23 := Lib.hid (HB22.out.trans (hb.mono (by omega)))
  replace Ov := Lib.hid (Ov.out.below hb)
  replace Og := Lib.hid (Og.out.below hb)
  replace Oh := Lib.hid (Oh.out.below hb)
  clear hb
  go_wp2_with fail
  refine (planefns.held_any _ _ r0.length (1) _ _ Og.out.reads (by omega)).mono ?_
  rintro e w24 ⟨rfl, hb⟩
  have s24 : w23.heap.size ≤ w24.heap.size := hb.size
  have n24_0 : w3.heap.size < w24.heap.size := by omega
  have n24_1 : w7.heap.size < w24.heap.size := by omega
  have n24_2 : w21.heap.size < w24.heap.size := by omega
  replace yv_0 := cell_below hb yv_0 (by omega)
  replace yv_1 := cell_below hb yv_1 (by omega)
  replace yg_0 := cell_below hb yg_0 (by omega)
  replace yg_1 := cell_below hb yg_1 (by omega)
  replace yh_0 := cell_below hb yh_0 (by omega)
  replace yh_1 := cell_below hb yh_1 (by omega)
  have HB24 := Lib.hid (HB23.out.trans (hb.mono (by omega)))
  replace Ov := Lib.hid (Ov.out.below hb)
  replace Og := Lib.hid (Og.out.below hb)
  replace Oh := Lib.hid (Oh.out.below hb)
  clear hb
  go_wp2_with fail
  go_ret
  exact ⟨rfl, HB24.out⟩
end Go.Proofs.Ytkbcofgigfnfaaa.fnExactPairPlanew
