/- The walk of FnExactParityNet, from what the model's function and the program's return. -/
import Derived.Test.YtoephhhofkmgjaaNetFns
import Derived.Test.YtoephhhofkmgjaaIntFns
import Derived.Test.YtoephhhofkmgjaaOwnG
import Derived.Deep.RegionHeld3
namespace Go.Proofs.Ytoephhhofkmgjaa.fnExactParityNetw
open Go.RowKit own
set_option linter.unusedVariables false
set_option linter.unusedSimpArgs false

set_option maxRecDepth 100000 in
set_option maxHeartbeats 4000000 in
theorem law_small (n0 : Int) (r0 : List (List (List Int × Int))) (rt0 : Int) (ok : Bool) (w : World)   (hz0 : r0.length + totL r0 ≤ 1048576)
    (HSpec : Hid (∀ (w : World), Calls Try.prog 36 #[.int .i64 n0] w (RetTB r0 rt0 ok w)))
    (HImpl : Hid (∀ (w : World), Calls Try.prog 37 #[.int .i64 n0] w (RetTB r0 rt0 ok w))) :
    Calls Try.prog 8 #[.int .i64 n0] w fun e w' => e = .returned (.bool true) ∧ Below w.heap.size w w' := by
  go_enter Try.func8, Try.ntmps8
  go_wp2_with fail
  have HB0 := Lib.hid (Below.refl w.heap.size w)
  have s0 : w.heap.size ≤ w.heap.size := Nat.le_refl _
  refine (HSpec.out  _ ).mono ?_
  rintro e w1 ⟨v, rfl, ho, hb⟩
  obtain ⟨va, vc, rfl, _, _, _⟩ := ho.slice
  have s1 : w.heap.size ≤ w1.heap.size := hb.size
  have HB1 := Lib.hid (HB0.out.trans (hb.mono (by omega)))
  clear hb
  have Ov := Lib.hid ho
  clear ho
  go_wp2_with fail
  have yv_0 : (w1.alloc (.cells #[.int .i64 rt0, .slice va r0.length vc] 29)).cell? ⟨w1.heap.size, 0, none⟩ = some (.int .i64 rt0) := cell_new _ _ _ rfl rfl
  have yv_1 : (w1.alloc (.cells #[.int .i64 rt0, .slice va r0.length vc] 29)).cell? ⟨w1.heap.size, 1, none⟩ = some (.slice va r0.length vc) := cell_new _ _ _ rfl rfl
  have hb := below_alloc w1 (.cells #[.int .i64 rt0, .slice va r0.length vc] 29)
  have z2 := size_alloc' w1 (.cells #[.int .i64 rt0, .slice va r0.length vc] 29)
  generalize hw : w1.alloc (.cells #[.int .i64 rt0, .slice va r0.length vc] 29) = w2 at *
  clear hw
  have s2 : w1.heap.size ≤ w2.heap.size := hb.size
  have HB2 := Lib.hid (HB1.out.trans (hb.mono (by omega)))
  replace Ov := Lib.hid (Ov.out.below hb)
  clear hb
  refine (HImpl.out  _ ).mono ?_
  rintro e w3 ⟨v, rfl, ho, hb⟩
  obtain ⟨ga, gc, rfl, _, _, _⟩ := ho.slice
  have s3 : w2.heap.size ≤ w3.heap.size := hb.size
  have n3_0 : w1.heap.size < w3.heap.size := by omega
  replace yv_0 := cell_below hb yv_0 (by omega)
  replace yv_1 := cell_below hb yv_1 (by omega)
  have HB3 := Lib.hid (HB2.out.trans (hb.mono (by omega)))
  replace Ov := Lib.hid (Ov.out.below hb)
  clear hb
  have Og := Lib.hid ho
  clear ho
  go_wp2_with fail
  have yg_0 : (w3.alloc (.cells #[.int .i64 rt0, .slice ga r0.length gc] 29)).cell? ⟨w3.heap.size, 0, none⟩ = some (.int .i64 rt0) := cell_new _ _ _ rfl rfl
  have yg_1 : (w3.alloc (.cells #[.int .i64 rt0, .slice ga r0.length gc] 29)).cell? ⟨w3.heap.size, 1, none⟩ = some (.slice ga r0.length gc) := cell_new _ _ _ rfl rfl
  have hb := below_alloc w3 (.cells #[.int .i64 rt0, .slice ga r0.length gc] 29)
  have z4 := size_alloc' w3 (.cells #[.int .i64 rt0, .slice ga r0.length gc] 29)
  generalize hw : w3.alloc (.cells #[.int .i64 rt0, .slice ga r0.length gc] 29) = w4 at *
  clear hw
  have s4 : w3.heap.size ≤ w4.heap.size := hb.size
  have n4_0 : w1.heap.size < w4.heap.size := by omega
  replace yv_0 := cell_below hb yv_0 (by omega)
  replace yv_1 := cell_below hb yv_1 (by omega)
  have HB4 := Lib.hid (HB3.out.trans (hb.mono (by omega)))
  replace Ov := Lib.hid (Ov.out.below hb)
  replace Og := Lib.hid (Og.out.below hb)
  clear hb
  refine (netfns.eq_same _ _ r0 _ _ rt0 _ Og.out.reads Ov.out.reads (by omega) (fun s hs => by have h9 := len_le_totL r0 s hs; refine ⟨by omega, fun y hy => ?_⟩; have := planesfns.len_le_totJ s y hy; omega)).mono ?_
  rintro e w5 ⟨rfl, hb⟩
  have s5 : w4.heap.size ≤ w5.heap.size := hb.size
  have n5_0 : w1.heap.size < w5.heap.size := by omega
  have n5_1 : w3.heap.size < w5.heap.size := by omega
  replace yv_0 := cell_below hb yv_0 (by omega)
  replace yv_1 := cell_below hb yv_1 (by omega)
  replace yg_0 := cell_below hb yg_0 (by omega)
  replace yg_1 := cell_below hb yg_1 (by omega)
  have HB5 := Lib.hid (HB4.out.trans (hb.mono (by omega)))
  replace Ov := Lib.hid (Ov.out.below hb)
  replace Og := Lib.hid (Og.out.below hb)
  clear hb
  go_wp2_with fail
  refine (netfns.mark_any (w2.heap.size) (w3.heap.size) _ _ r0 rt0 (1) _ Og.out (by omega) (by omega)).mono ?_
  rintro e w6 ⟨rfl, ho, hb⟩
  have s6 : w5.heap.size ≤ w6.heap.size := hb.size
  have n6_0 : w1.heap.size < w6.heap.size := by omega
  have n6_1 : w3.heap.size < w6.heap.size := by omega
  replace yv_0 := hb.cell yv_0 (by omega) (by omega)
  replace yv_1 := hb.cell yv_1 (by omega) (by omega)
  replace yg_0 := hb.cell yg_0 (by omega) (by omega)
  replace yg_1 := hb.cell yg_1 (by omega) (by omega)
  have HB6 := Lib.hid (HB5.out.trans ((hb.below (by omega)).mono (by omega)))
  replace Ov := Lib.hid (Ov.out.only hb (by omega))
  clear hb
  replace Og := Lib.hid ho
  clear ho
  go_wp2_with fail
  refine (netfns.held_any _ _ r0 _ (1) _ Og.out.reads (by omega) (by omega)).mono ?_
  rintro e w7 ⟨rfl, hb⟩
  have s7 : w6.heap.size ≤ w7.heap.size := hb.size
  have n7_0 : w1.heap.size < w7.heap.size := by omega
  have n7_1 : w3.heap.size < w7.heap.size := by omega
  replace yv_0 := cell_below hb yv_0 (by omega)
  replace yv_1 := cell_below hb yv_1 (by omega)
  replace yg_0 := cell_below hb yg_0 (by omega)
  replace yg_1 := cell_below hb yg_1 (by omega)
  have HB7 := Lib.hid (HB6.out.trans (hb.mono (by omega)))
  replace Ov := Lib.hid (Ov.out.below hb)
  replace Og := Lib.hid (Og.out.below hb)
  clear hb
  go_wp2_with fail
  refine (HImpl.out  _ ).mono ?_
  rintro e w8 ⟨v, rfl, ho, hb⟩
  obtain ⟨ha, hc, rfl, _, _, _⟩ := ho.slice
  have s8 : w7.heap.size ≤ w8.heap.size := hb.size
  have n8_0 : w1.heap.size < w8.heap.size := by omega
  have n8_1 : w3.heap.size < w8.heap.size := by omega
  replace yv_0 := cell_below hb yv_0 (by omega)
  replace yv_1 := cell_below hb yv_1 (by omega)
  replace yg_0 := cell_below hb yg_0 (by omega)
  replace yg_1 := cell_below hb yg_1 (by omega)
  have HB8 := Lib.hid (HB7.out.trans (hb.mono (by omega)))
  replace Ov := Lib.hid (Ov.out.below hb)
  replace Og := Lib.hid (Og.out.below hb)
  clear hb
  have Oh := Lib.hid ho
  clear ho
  go_wp2_with fail
  have yh_0 : (w8.alloc (.cells #[.int .i64 rt0, .slice ha r0.length hc] 29)).cell? ⟨w8.heap.size, 0, none⟩ = some (.int .i64 rt0) := cell_new _ _ _ rfl rfl
  have yh_1 : (w8.alloc (.cells #[.int .i64 rt0, .slice ha r0.length hc] 29)).cell? ⟨w8.heap.size, 1, none⟩ = some (.slice ha r0.length hc) := cell_new _ _ _ rfl rfl
  have hb := below_alloc w8 (.cells #[.int .i64 rt0, .slice ha r0.length hc] 29)
  have z9 := size_alloc' w8 (.cells #[.int .i64 rt0, .slice ha r0.length hc] 29)
  generalize hw : w8.alloc (.cells #[.int .i64 rt0, .slice ha r0.length hc] 29) = w9 at *
  clear hw
  have s9 : w8.heap.size ≤ w9.heap.size := hb.size
  have n9_0 : w1.heap.size < w9.heap.size := by omega
  have n9_1 : w3.heap.size < w9.heap.size := by omega
  replace yv_0 := cell_below hb yv_0 (by omega)
  replace yv_1 := cell_below hb yv_1 (by omega)
  replace yg_0 := cell_below hb yg_0 (by omega)
  replace yg_1 := cell_below hb yg_1 (by omega)
  have HB9 := Lib.hid (HB8.out.trans (hb.mono (by omega)))
  replace Ov := Lib.hid (Ov.out.below hb)
  replace Og := Lib.hid (Og.out.below hb)
  replace Oh := Lib.hid (Oh.out.below hb)
  clear hb
  refine (netfns.eq_same _ _ r0 _ _ rt0 _ Oh.out.reads Ov.out.reads (by omega) (fun s hs => by have h9 := len_le_totL r0 s hs; refine ⟨by omega, fun y hy => ?_⟩; have := planesfns.len_le_totJ s y hy; omega)).mono ?_
  rintro e w10 ⟨rfl, hb⟩
  have s10 : w9.heap.size ≤ w10.heap.size := hb.size
  have n10_0 : w1.heap.size < w10.heap.size := by omega
  have n10_1 : w3.heap.size < w10.heap.size := by omega
  have n10_2 : w8.heap.size < w10.heap.size := by omega
  replace yv_0 := cell_below hb yv_0 (by omega)
  replace yv_1 := cell_below hb yv_1 (by omega)
  replace yg_0 := cell_below hb yg_0 (by omega)
  replace yg_1 := cell_below hb yg_1 (by omega)
  replace yh_0 := cell_below hb yh_0 (by omega)
  replace yh_1 := cell_below hb yh_1 (by omega)
  have HB10 := Lib.hid (HB9.out.trans (hb.mono (by omega)))
  replace Ov := Lib.hid (Ov.out.below hb)
  replace Og := Lib.hid (Og.out.below hb)
  replace Oh := Lib.hid (Oh.out.below hb)
  clear hb
  go_wp2_with fail
  refine (netfns.held_any _ _ r0 _ (1) _ Og.out.reads (by omega) (by omega)).mono ?_
  rintro e w11 ⟨rfl, hb⟩
  have s11 : w10.heap.size ≤ w11.heap.size := hb.size
  have n11_0 : w1.heap.size < w11.heap.size := by omega
  have n11_1 : w3.heap.size < w11.heap.size := by omega
  have n11_2 : w8.heap.size < w11.heap.size := by omega
  replace yv_0 := cell_below hb yv_0 (by omega)
  replace yv_1 := cell_below hb yv_1 (by omega)
  replace yg_0 := cell_below hb yg_0 (by omega)
  replace yg_1 := cell_below hb yg_1 (by omega)
  replace yh_0 := cell_below hb yh_0 (by omega)
  replace yh_1 := cell_below hb yh_1 (by omega)
  have HB11 := Lib.hid (HB10.out.trans (hb.mono (by omega)))
  replace Ov := Lib.hid (Ov.out.below hb)
  replace Og := Lib.hid (Og.out.below hb)
  replace Oh := Lib.hid (Oh.out.below hb)
  clear hb
  go_wp2_with fail
  go_ret
  exact ⟨rfl, HB11.out⟩
end Go.Proofs.Ytoephhhofkmgjaa.fnExactParityNetw
