/- Several texts in one. -/
import Derived.Deep.RegionHeld3
import Derived.Test.YtldimbipjjjghaaLpG7
import Derived.Test.YtldimbipjjjghaaLpG6
namespace Go.Proofs.Ytldimbipjjjghaa.fnExactLeastPlanew
open Go.RowKit own
set_option linter.unusedVariables false
set_option linter.unusedSimpArgs false

set_option maxHeartbeats 1000000 in
theorem exit_len1 (n0 : Int) (a1 : Option Addr) (zs1 : List Int) (c1 : Nat) (w : World) (hr1 : ints.Reads .i64 w a1 zs1)  (hl1 : zs1.length ≤ 9223372036854775807)  (h1 : 1048576 < zs1.length) : Calls Try.prog 9 #[.int .i64 n0, .slice a1 zs1.length c1] w fun e w' => e = .returned (.bool true) ∧ Below w.heap.size w w' := by
  have HR1 := Lib.hid hr1
  clear hr1
  go_enter Try.func9, Try.ntmps9
  go_wp2_with fail
  go_ret
  exact ⟨rfl, by first | exact Below.refl _ _ | exact (Below.refl _ _).alloc (Nat.le_refl _) _ | exact ((Below.refl _ _).alloc (Nat.le_refl _) _).alloc (by simp) _⟩

theorem law_big (n0 : Int) (a1 : Option Addr) (zs1 : List Int) (c1 : Nat) (w : World) (hr1 : ints.Reads .i64 w a1 zs1)  (hl1 : zs1.length ≤ 9223372036854775807) (hx : ¬ (zs1.length ≤ 1048576)) : Calls Try.prog 9 #[.int .i64 n0, .slice a1 zs1.length c1] w fun e w' => e = .returned (.bool true) ∧ Below w.heap.size w w' := by
  by_cases g1 : 1048576 < zs1.length
  · exact exit_len1 n0 a1 zs1 c1 w hr1 hl1  g1
  · exact absurd (by omega) hx

set_option maxRecDepth 100000 in
set_option maxHeartbeats 4000000 in
theorem law_small (n0 : Int) (a1 : Option Addr) (zs1 : List Int) (c1 : Nat) (r0 : List Int) (rb0 : Int) (ok : Bool) (w : World) (hr1 : ints.Reads .i64 w a1 zs1) (h0 : zs1.length ≤ 1048576) (hz0 : r0.length ≤ 1048576)
    (HSpec : Hid (∀ (a1 : Option Addr) (c1 : Nat) (w : World), ints.Reads .i64 w a1 zs1 → Calls Try.prog 41 #[.int .i64 n0, .slice a1 zs1.length c1] w (RetPB r0 rb0 ok w)))
    (HImpl : Hid (∀ (a1 : Option Addr) (c1 : Nat) (w : World), ints.Reads .i64 w a1 zs1 → Calls Try.prog 42 #[.int .i64 n0, .slice a1 zs1.length c1] w (RetPB r0 rb0 ok w))) :
    Calls Try.prog 9 #[.int .i64 n0, .slice a1 zs1.length c1] w fun e w' => e = .returned (.bool true) ∧ Below w.heap.size w w' := by
  have HR1 := Lib.hid hr1
  clear hr1
  go_enter Try.func9, Try.ntmps9
  go_wp2_with fail
  have HB0 := Lib.hid (Below.refl w.heap.size w)
  have s0 : w.heap.size ≤ w.heap.size := Nat.le_refl _
  refine (intfns.to_any a1 zs1 c1 _ (HR1.out.below HB0.out) (by omega)).mono ?_
  rintro e w1 ⟨v, rfl, ho, hb⟩
  obtain ⟨s1a, s1c, rfl, _, _, _⟩ := ho.slice
  have s1 : w.heap.size ≤ w1.heap.size := hb.size
  have HB1 := Lib.hid (HB0.out.trans (hb.mono (by omega)))
  clear hb
  have Os1 := Lib.hid ho
  clear ho
  go_wp2_with fail
  refine (HSpec.out _ _ _ Os1.out.reads).mono ?_
  rintro e w2 ⟨v, rfl, ho, hb⟩
  obtain ⟨va, vc, rfl, _, _, _⟩ := ho.slice
  have s2 : w1.heap.size ≤ w2.heap.size := hb.size
  have HB2 := Lib.hid (HB1.out.trans (hb.mono (by omega)))
  replace Os1 := Lib.hid (Os1.out.below hb)
  clear hb
  have Ov := Lib.hid ho
  clear ho
  clear Os1
  go_wp2_with fail
  have yv_0 : (w2.alloc (.cells #[.slice va r0.length vc, .int .i64 rb0] 28)).cell? ⟨w2.heap.size, 0, none⟩ = some (.slice va r0.length vc) := cell_new _ _ _ rfl rfl
  have yv_1 : (w2.alloc (.cells #[.slice va r0.length vc, .int .i64 rb0] 28)).cell? ⟨w2.heap.size, 1, none⟩ = some (.int .i64 rb0) := cell_new _ _ _ rfl rfl
  have hb := below_alloc w2 (.cells #[.slice va r0.length vc, .int .i64 rb0] 28)
  have z3 := size_alloc' w2 (.cells #[.slice va r0.length vc, .int .i64 rb0] 28)
  generalize hw : w2.alloc (.cells #[.slice va r0.length vc, .int .i64 rb0] 28) = w3 at *
  clear hw
  have s3 : w2.heap.size ≤ w3.heap.size := hb.size
  have HB3 := Lib.hid (HB2.out.trans (hb.mono (by omega)))
  replace Ov := Lib.hid (Ov.out.below hb)
  clear hb
  refine (intfns.to_any a1 zs1 c1 _ (HR1.out.below HB3.out) (by omega)).mono ?_
  rintro e w4 ⟨v, rfl, ho, hb⟩
  obtain ⟨x1a, x1c, rfl, _, _, _⟩ := ho.slice
  have s4 : w3.heap.size ≤ w4.heap.size := hb.size
  have n4_0 : w2.heap.size < w4.heap.size := by omega
  replace yv_0 := cell_below hb yv_0 (by omega)
  replace yv_1 := cell_below hb yv_1 (by omega)
  have HB4 := Lib.hid (HB3.out.trans (hb.mono (by omega)))
  replace Ov := Lib.hid (Ov.out.below hb)
  clear hb
  have Ox1 := Lib.hid ho
  clear ho
  go_wp2_with fail
  refine (HImpl.out _ _ _ Ox1.out.reads).mono ?_
  rintro e w5 ⟨v, rfl, ho, hb⟩
  obtain ⟨ga, gc, rfl, _, _, _⟩ := ho.slice
  have s5 : w4.heap.size ≤ w5.heap.size := hb.size
  have n5_0 : w2.heap.size < w5.heap.size := by omega
  replace yv_0 := cell_below hb yv_0 (by omega)
  replace yv_1 := cell_below hb yv_1 (by omega)
  have HB5 := Lib.hid (HB4.out.trans (hb.mono (by omega)))
  replace Ov := Lib.hid (Ov.out.below hb)
  replace Ox1 := Lib.hid (Ox1.out.below hb)
  clear hb
  have Og := Lib.hid ho
  clear ho
  go_wp2_with fail
  have yg_0 : (w5.alloc (.cells #[.slice ga r0.length gc, .int .i64 rb0] 28)).cell? ⟨w5.heap.size, 0, none⟩ = some (.slice ga r0.length gc) := cell_new _ _ _ rfl rfl
  have yg_1 : (w5.alloc (.cells #[.slice ga r0.length gc, .int .i64 rb0] 28)).cell? ⟨w5.heap.size, 1, none⟩ = some (.int .i64 rb0) := cell_new _ _ _ rfl rfl
  have hb := below_alloc w5 (.cells #[.slice ga r0.length gc, .int .i64 rb0] 28)
  have z6 := size_alloc' w5 (.cells #[.slice ga r0.length gc, .int .i64 rb0] 28)
  generalize hw : w5.alloc (.cells #[.slice ga r0.length gc, .int .i64 rb0] 28) = w6 at *
  clear hw
  have s6 : w5.heap.size ≤ w6.heap.size := hb.size
  have n6_0 : w2.heap.size < w6.heap.size := by omega
  replace yv_0 := cell_below hb yv_0 (by omega)
  replace yv_1 := cell_below hb yv_1 (by omega)
  have HB6 := Lib.hid (HB5.out.trans (hb.mono (by omega)))
  replace Ov := Lib.hid (Ov.out.below hb)
  replace Ox1 := Lib.hid (Ox1.out.below hb)
  replace Og := Lib.hid (Og.out.below hb)
  clear hb
  refine (planefns.eq_same _ _ r0 _ _ rb0 _ Og.out.reads Ov.out.reads (by omega)).mono ?_
  rintro e w7 ⟨rfl, hb⟩
  have s7 : w6.heap.size ≤ w7.heap.size := hb.size
  have n7_0 : w2.heap.size < w7.heap.size := by omega
  have n7_1 : w5.heap.size < w7.heap.size := by omega
  replace yv_0 := cell_below hb yv_0 (by omega)
  replace yv_1 := cell_below hb yv_1 (by omega)
  replace yg_0 := cell_below hb yg_0 (by omega)
  replace yg_1 := cell_below hb yg_1 (by omega)
  have HB7 := Lib.hid (HB6.out.trans (hb.mono (by omega)))
  replace Ov := Lib.hid (Ov.out.below hb)
  replace Ox1 := Lib.hid (Ox1.out.below hb)
  replace Og := Lib.hid (Og.out.below hb)
  clear hb
  go_wp2_with fail
  refine (intfns.to_any a1 zs1 c1 _ (HR1.out.below HB7.out) (by omega)).mono ?_
  rintro e w8 ⟨v, rfl, ho, hb⟩
  obtain ⟨q1a, q1c, rfl, _, _, _⟩ := ho.slice
  have s8 : w7.heap.size ≤ w8.heap.size := hb.size
  have n8_0 : w2.heap.size < w8.heap.size := by omega
  have n8_1 : w5.heap.size < w8.heap.size := by omega
  replace yv_0 := cell_below hb yv_0 (by omega)
  replace yv_1 := cell_below hb yv_1 (by omega)
  replace yg_0 := cell_below hb yg_0 (by omega)
  replace yg_1 := cell_below hb yg_1 (by omega)
  have HB8 := Lib.hid (HB7.out.trans (hb.mono (by omega)))
  replace Ov := Lib.hid (Ov.out.below hb)
  replace Ox1 := Lib.hid (Ox1.out.below hb)
  replace Og := Lib.hid (Og.out.below hb)
  clear hb
  have Oq1 := Lib.hid ho
  clear ho
  go_wp2_with fail
  refine (intfns.eq_same _ _ zs1 _ _ _ Ox1.out.reads Oq1.out.reads (by omega)).mono ?_
  rintro e w9 ⟨rfl, hb⟩
  have s9 : w8.heap.size ≤ w9.heap.size := hb.size
  have n9_0 : w2.heap.size < w9.heap.size := by omega
  have n9_1 : w5.heap.size < w9.heap.size := by omega
  replace yv_0 := cell_below hb yv_0 (by omega)
  replace yv_1 := cell_below hb yv_1 (by omega)
  replace yg_0 := cell_below hb yg_0 (by omega)
  replace yg_1 := cell_below hb yg_1 (by omega)
  have HB9 := Lib.hid (HB8.out.trans (hb.mono (by omega)))
  replace Ov := Lib.hid (Ov.out.below hb)
  replace Ox1 := Lib.hid (Ox1.out.below hb)
  replace Og := Lib.hid (Og.out.below hb)
  replace Oq1 := Lib.hid (Oq1.out.below hb)
  clear hb
  clear Oq1
  go_wp2_with fail
  refine (intfns.mark_any (w3.heap.size) (w4.heap.size) _ _ zs1 (1) _ Ox1.out (by omega)).mono ?_
  rintro e w10 ⟨rfl, ho, hg⟩
  have hb : Only (w3.heap.size) (w4.heap.size) w9 w10 := Only.of_grown (hg _ rfl) fun g hg => ⟨(Ox1.out.lt hg).1, (Ox1.out.lt hg).2.1⟩
  clear hg
  have s10 : w9.heap.size ≤ w10.heap.size := hb.size
  have n10_0 : w2.heap.size < w10.heap.size := by omega
  have n10_1 : w5.heap.size < w10.heap.size := by omega
  replace yv_0 := hb.cell yv_0 (by omega) (by omega)
  replace yv_1 := hb.cell yv_1 (by omega) (by omega)
  replace yg_0 := hb.cell yg_0 (by omega) (by omega)
  replace yg_1 := hb.cell yg_1 (by omega) (by omega)
  have HB10 := Lib.hid (HB9.out.trans ((hb.below (by omega)).mono (by omega)))
  replace Ov := Lib.hid (Ov.out.only hb (by omega))
  replace Og := Lib.hid (Og.out.only hb (by omega))
  clear hb
  replace Ox1 := Lib.hid ho
  clear ho
  go_wp2_with fail
  refine (planefns.eq_same _ _ r0 _ _ rb0 _ Og.out.reads Ov.out.reads (by omega)).mono ?_
  rintro e w11 ⟨rfl, hb⟩
  have s11 : w10.heap.size ≤ w11.heap.size := hb.size
  have n11_0 : w2.heap.size < w11.heap.size := by omega
  have n11_1 : w5.heap.size < w11.heap.size := by omega
  replace yv_0 := cell_below hb yv_0 (by omega)
  replace yv_1 := cell_below hb yv_1 (by omega)
  replace yg_0 := cell_below hb yg_0 (by omega)
  replace yg_1 := cell_below hb yg_1 (by omega)
  have HB11 := Lib.hid (HB10.out.trans (hb.mono (by omega)))
  replace Ov := Lib.hid (Ov.out.below hb)
  replace Ox1 := Lib.hid (Ox1.out.below hb)
  replace Og := Lib.hid (Og.out.below hb)
  clear hb
  go_wp2_with fail
  clear Ox1
  refine (planefns.mark_any (w4.heap.size) (w5.heap.size) _ _ r0 rb0 (1) _ Og.out (by omega)).mono ?_
  rintro e w12 ⟨rfl, ho, hb⟩
  have s12 : w11.heap.size ≤ w12.heap.size := hb.size
  have n12_0 : w2.heap.size < w12.heap.size := by omega
  have n12_1 : w5.heap.size < w12.heap.size := by omega
  replace yv_0 := hb.cell yv_0 (by omega) (by omega)
  replace yv_1 := hb.cell yv_1 (by omega) (by omega)
  replace yg_0 := hb.cell yg_0 (by omega) (by omega)
  replace yg_1 := hb.cell yg_1 (by omega) (by omega)
  have HB12 := Lib.hid (HB11.out.trans ((hb.below (by omega)).mono (by omega)))
  replace Ov := Lib.hid (Ov.out.only hb (by omega))
  clear hb
  replace Og := Lib.hid ho
  clear ho
  go_wp2_with fail
  refine (planefns.held_any _ _ r0.length (1) _ _ Og.out.reads (by omega)).mono ?_
  rintro e w13 ⟨rfl, hb⟩
  have s13 : w12.heap.size ≤ w13.heap.size := hb.size
  have n13_0 : w2.heap.size < w13.heap.size := by omega
  have n13_1 : w5.heap.size < w13.heap.size := by omega
  replace yv_0 := cell_below hb yv_0 (by omega)
  replace yv_1 := cell_below hb yv_1 (by omega)
  replace yg_0 := cell_below hb yg_0 (by omega)
  replace yg_1 := cell_below hb yg_1 (by omega)
  have HB13 := Lib.hid (HB12.out.trans (hb.mono (by omega)))
  replace Ov := Lib.hid (Ov.out.below hb)
  replace Og := Lib.hid (Og.out.below hb)
  clear hb
  go_wp2_with fail
  refine (intfns.to_any a1 zs1 c1 _ (HR1.out.below HB13.out) (by omega)).mono ?_
  rintro e w14 ⟨v, rfl, ho, hb⟩
  obtain ⟨h1a, h1c, rfl, _, _, _⟩ := ho.slice
  have s14 : w13.heap.size ≤ w14.heap.size := hb.size
  have n14_0 : w2.heap.size < w14.heap.size := by omega
  have n14_1 : w5.heap.size < w14.heap.size := by omega
  replace yv_0 := cell_below hb yv_0 (by omega)
  replace yv_1 := cell_below hb yv_1 (by omega)
  replace yg_0 := cell_below hb yg_0 (by omega)
  replace yg_1 := cell_below hb yg_1 (by omega)
  have HB14 := Lib.hid (HB13.out.trans (hb.mono (by omega)))
  replace Ov := Lib.hid (Ov.out.below hb)
  replace Og := Lib.hid (Og.out.below hb)
  clear hb
  have Oh1 := Lib.hid ho
  clear ho
  go_wp2_with fail
  refine (HImpl.out _ _ _ Oh1.out.reads).mono ?_
  rintro e w15 ⟨v, rfl, ho, hb⟩
  obtain ⟨ha, hc, rfl, _, _, _⟩ := ho.slice
  have s15 : w14.heap.size ≤ w15.heap.size := hb.size
  have n15_0 : w2.heap.size < w15.heap.size := by omega
  have n15_1 : w5.heap.size < w15.heap.size := by omega
  replace yv_0 := cell_below hb yv_0 (by omega)
  replace yv_1 := cell_below hb yv_1 (by omega)
  replace yg_0 := cell_below hb yg_0 (by omega)
  replace yg_1 := cell_below hb yg_1 (by omega)
  have HB15 := Lib.hid (HB14.out.trans (hb.mono (by omega)))
  replace Ov := Lib.hid (Ov.out.below hb)
  replace Og := Lib.hid (Og.out.below hb)
  replace Oh1 := Lib.hid (Oh1.out.below hb)
  clear hb
  have Oh := Lib.hid ho
  clear ho
  clear Oh1
  go_wp2_with fail
  have yh_0 : (w15.alloc (.cells #[.slice ha r0.length hc, .int .i64 rb0] 28)).cell? ⟨w15.heap.size, 0, none⟩ = some (.slice ha r0.length hc) := cell_new _ _ _ rfl rfl
  have yh_1 : (w15.alloc (.cells #[.slice ha r0.length hc, .int .i64 rb0] 28)).cell? ⟨w15.heap.size, 1, none⟩ = some (.int .i64 rb0) := cell_new _ _ _ rfl rfl
  have hb := below_alloc w15 (.cells #[.slice ha r0.length hc, .int .i64 rb0] 28)
  have z16 := size_alloc' w15 (.cells #[.slice ha r0.length hc, .int .i64 rb0] 28)
  generalize hw : w15.alloc (.cells #[.slice ha r0.length hc, .int .i64 rb0] 28) = w16 at *
  clear hw
  have s16 : w15.heap.size ≤ w16.heap.size := hb.size
  have n16_0 : w2.heap.size < w16.heap.size := by omega
  have n16_1 : w5.heap.size < w16.heap.size := by omega
  replace yv_0 := cell_below hb yv_0 (by omega)
  replace yv_1 := cell_below hb yv_1 (by omega)
  replace yg_0 := cell_below hb yg_0 (by omega)
  replace yg_1 := cell_below hb yg_1 (by omega)
  have HB16 := Lib.hid (HB15.out.trans (hb.mono (by omega)))
  replace Ov := Lib.hid (Ov.out.below hb)
  replace Og := Lib.hid (Og.out.below hb)
  replace Oh := Lib.hid (Oh.out.below hb)
  clear hb
  refine (planefns.eq_same _ _ r0 _ _ rb0 _ Oh.out.reads Ov.out.reads (by omega)).mono ?_
  rintro e w17 ⟨rfl, hb⟩
  have s17 : w16.heap.size ≤ w17.heap.size := hb.size
  have n17_0 : w2.heap.size < w17.heap.size := by omega
  have n17_1 : w5.heap.size < w17.heap.size := by omega
  have n17_2 : w15.heap.size < w17.heap.size := by omega
  replace yv_0 := cell_below hb yv_0 (by omega)
  replace yv_1 := cell_below hb yv_1 (by omega)
  replace yg_0 := cell_below hb yg_0 (by omega)
  replace yg_1 := cell_below hb yg_1 (by omega)
  replace yh_0 := cell_below hb yh_0 (by omega)
  replace yh_1 := cell_below hb yh_1 (by omega)
  have HB17 := Lib.hid (HB16.out.trans (hb.mono (by omega)))
  replace Ov := Lib.hid (Ov.out.below hb)
  replace Og := Lib.hid (Og.out.below hb)
  replace Oh := Lib.hid (Oh.out.below hb)
  clear hb
  go_wp2_with fail
  refine (planefns.held_any _ _ r0.length (1) _ _ Og.out.reads (by omega)).mono ?_
  rintro e w18 ⟨rfl, hb⟩
  have s18 : w17.heap.size ≤ w18.heap.size := hb.size
  have n18_0 : w2.heap.size < w18.heap.size := by omega
  have n18_1 : w5.heap.size < w18.heap.size := by omega
  have n18_2 : w15.heap.size < w18.heap.size := by omega
  replace yv_0 := cell_below hb yv_0 (by omega)
  replace yv_1 := cell_below hb yv_1 (by omega)
  replace yg_0 := cell_below hb yg_0 (by omega)
  replace yg_1 := cell_below hb yg_1 (by omega)
  replace yh_0 := cell_below hb yh_0 (by omega)
  replace yh_1 := cell_below hb yh_1 (by omega)
  have HB18 := Lib.hid (HB17.out.trans (hb.mono (by omega)))
  replace Ov := Lib.hid (Ov.out.below hb)
  replace Og := Lib.hid (Og.out.below hb)
  replace Oh := Lib.hid (Oh.out.below hb)
  clear hb
  go_wp2_with fail
  go_ret
  exact ⟨rfl, HB18.out⟩
end Go.Proofs.Ytldimbipjjjghaa.fnExactLeastPlanew
