/- The walk of FnExactNegateNet, from what the model's function and the program's return. -/
import Derived.Test.YtoephhhofkmgjaaNetFns
import Derived.Test.YtoephhhofkmgjaaIntFns
import Derived.Test.YtoephhhofkmgjaaOwnG
import Derived.Deep.RegionHeld3
namespace Go.Proofs.Ytoephhhofkmgjaa.fnExactNegateNetw
open Go.RowKit own
set_option linter.unusedVariables false
set_option linter.unusedSimpArgs false

set_option maxHeartbeats 1000000 in
theorem exit_sz0 (a0 : Option Addr) (ls0 : List (List (List Int × Int))) (c0 : Nat) (t0 : Int) (w : World) (hr0 : ReadsL w a0 ls0) (hl0 : ls0.length ≤ 9223372036854775807) (hm0 : ∀ x ∈ ls0, x.length ≤ 9223372036854775807 ∧ ∀ y ∈ x, y.1.length ≤ 9223372036854775807)  (hx : 1048576 < (ls0.length : Int) + (totL ls0 : Int)) : Calls Try.prog 11 #[.agg #[.int .i64 t0, .slice a0 ls0.length c0]] w fun e w' => e = .returned (.bool true) ∧ Below w.heap.size w w' := by
  have HR0 := Lib.hid hr0
  clear hr0
  have HM0 := Lib.hid hm0
  clear hm0
  go_enter Try.func11, Try.ntmps11
  go_wp2_with fail
  have x0_0 : (w.alloc (.cells #[.int .i64 t0, .slice a0 ls0.length c0] 24)).cell? ⟨w.heap.size, 0, none⟩ = some (.int .i64 t0) := cell_new _ _ _ (by simp) rfl
  have x0_1 : (w.alloc (.cells #[.int .i64 t0, .slice a0 ls0.length c0] 24)).cell? ⟨w.heap.size, 1, none⟩ = some (.slice a0 ls0.length c0) := cell_new _ _ _ (by simp) rfl
  have HB0 := Lib.hid (below_alloc w (.cells #[.int .i64 t0, .slice a0 ls0.length c0] 24))
  have s0_0 := size_alloc' w (.cells #[.int .i64 t0, .slice a0 ls0.length c0] 24)
  have s0 : w.heap.size + 1 ≤ (w.alloc (.cells #[.int .i64 t0, .slice a0 ls0.length c0] 24)).heap.size := by simp
  clear s0_0
  generalize hw : (w.alloc (.cells #[.int .i64 t0, .slice a0 ls0.length c0] 24)) = w0 at *
  clear hw
  refine (netfns.sz_no _ ls0 _ _ _ _ (HR0.out.below HB0.out) (by omega) HM0.out (by omega) (by omega) (by omega)).mono ?_
  rintro e w1 ⟨rfl, hb⟩
  have s1 : w0.heap.size ≤ w1.heap.size := hb.size
  have n1_0 : w.heap.size < w1.heap.size := by omega
  replace x0_0 := cell_below hb x0_0 (by omega)
  replace x0_1 := cell_below hb x0_1 (by omega)
  have HB1 := Lib.hid (HB0.out.trans (hb.mono (by omega)))
  clear hb
  go_wp2_with fail
  go_ret
  exact ⟨rfl, HB1.out⟩

theorem law_big (a0 : Option Addr) (ls0 : List (List (List Int × Int))) (c0 : Nat) (t0 : Int) (w : World) (hr0 : ReadsL w a0 ls0) (hl0 : ls0.length ≤ 9223372036854775807) (hm0 : ∀ x ∈ ls0, x.length ≤ 9223372036854775807 ∧ ∀ y ∈ x, y.1.length ≤ 9223372036854775807) (hx : ¬ ((ls0.length : Int) + (totL ls0 : Int) ≤ 1048576)) : Calls Try.prog 11 #[.agg #[.int .i64 t0, .slice a0 ls0.length c0]] w fun e w' => e = .returned (.bool true) ∧ Below w.heap.size w w' := by
  by_cases k0 : 1048576 < (ls0.length : Int) + (totL ls0 : Int)
  · exact exit_sz0 a0 ls0 c0 t0 w hr0 hl0 hm0   k0
  · exact absurd (by omega) hx

set_option maxRecDepth 100000 in
set_option maxHeartbeats 4000000 in
theorem law_small (a0 : Option Addr) (ls0 : List (List (List Int × Int))) (c0 : Nat) (t0 : Int) (r0 : List (List (List Int × Int))) (rt0 : Int) (ok : Bool) (w : World) (hr0 : ReadsL w a0 ls0) (h0 : (ls0.length : Int) + (totL ls0 : Int) ≤ 1048576) (hz0 : r0.length + totL r0 ≤ 1048576)
    (HSpec : Hid (∀ (a0 : Option Addr) (c0 : Nat) (w : World), ReadsL w a0 ls0 → Calls Try.prog 43 #[.agg #[.int .i64 t0, .slice a0 ls0.length c0]] w (RetTB r0 rt0 ok w)))
    (HImpl : Hid (∀ (a0 : Option Addr) (c0 : Nat) (w : World), ReadsL w a0 ls0 → Calls Try.prog 44 #[.agg #[.int .i64 t0, .slice a0 ls0.length c0]] w (RetTB r0 rt0 ok w))) :
    Calls Try.prog 11 #[.agg #[.int .i64 t0, .slice a0 ls0.length c0]] w fun e w' => e = .returned (.bool true) ∧ Below w.heap.size w w' := by
  have HR0 := Lib.hid hr0
  clear hr0
  go_enter Try.func11, Try.ntmps11
  go_wp2_with fail
  have x0_0 : (w.alloc (.cells #[.int .i64 t0, .slice a0 ls0.length c0] 24)).cell? ⟨w.heap.size, 0, none⟩ = some (.int .i64 t0) := cell_new _ _ _ (by simp) rfl
  have x0_1 : (w.alloc (.cells #[.int .i64 t0, .slice a0 ls0.length c0] 24)).cell? ⟨w.heap.size, 1, none⟩ = some (.slice a0 ls0.length c0) := cell_new _ _ _ (by simp) rfl
  have HB0 := Lib.hid (below_alloc w (.cells #[.int .i64 t0, .slice a0 ls0.length c0] 24))
  have s0_0 := size_alloc' w (.cells #[.int .i64 t0, .slice a0 ls0.length c0] 24)
  have s0 : w.heap.size + 1 ≤ (w.alloc (.cells #[.int .i64 t0, .slice a0 ls0.length c0] 24)).heap.size := by simp
  clear s0_0
  generalize hw : (w.alloc (.cells #[.int .i64 t0, .slice a0 ls0.length c0] 24)) = w0 at *
  clear hw
  refine (netfns.sz_yes _ ls0 _ _ _ _ (HR0.out.below HB0.out) (by omega) (by omega)).mono ?_
  rintro e w1 ⟨rfl, hb⟩
  have s1 : w0.heap.size ≤ w1.heap.size := hb.size
  have n1_0 : w.heap.size < w1.heap.size := by omega
  replace x0_0 := cell_below hb x0_0 (by omega)
  replace x0_1 := cell_below hb x0_1 (by omega)
  have HB1 := Lib.hid (HB0.out.trans (hb.mono (by omega)))
  clear hb
  go_wp2_with fail
  refine (netfns.to_any a0 ls0 c0 t0 _ (HR0.out.below HB1.out) (by omega)).mono ?_
  rintro e w2 ⟨v, rfl, ho, hb⟩
  obtain ⟨s0a, s0c, rfl, _, _, _⟩ := ho.slice
  have s2 : w1.heap.size ≤ w2.heap.size := hb.size
  have n2_0 : w.heap.size < w2.heap.size := by omega
  replace x0_0 := cell_below hb x0_0 (by omega)
  replace x0_1 := cell_below hb x0_1 (by omega)
  have HB2 := Lib.hid (HB1.out.trans (hb.mono (by omega)))
  clear hb
  have Os0 := Lib.hid ho
  clear ho
  go_wp2_with fail
  refine (HSpec.out _ _ _ Os0.out.reads).mono ?_
  rintro e w3 ⟨v, rfl, ho, hb⟩
  obtain ⟨va, vc, rfl, _, _, _⟩ := ho.slice
  have s3 : w2.heap.size ≤ w3.heap.size := hb.size
  have n3_0 : w.heap.size < w3.heap.size := by omega
  replace x0_0 := cell_below hb x0_0 (by omega)
  replace x0_1 := cell_below hb x0_1 (by omega)
  have HB3 := Lib.hid (HB2.out.trans (hb.mono (by omega)))
  replace Os0 := Lib.hid (Os0.out.below hb)
  clear hb
  have Ov := Lib.hid ho
  clear ho
  clear Os0
  go_wp2_with fail
  have yv_0 : (w3.alloc (.cells #[.int .i64 rt0, .slice va r0.length vc] 29)).cell? ⟨w3.heap.size, 0, none⟩ = some (.int .i64 rt0) := cell_new _ _ _ rfl rfl
  have yv_1 : (w3.alloc (.cells #[.int .i64 rt0, .slice va r0.length vc] 29)).cell? ⟨w3.heap.size, 1, none⟩ = some (.slice va r0.length vc) := cell_new _ _ _ rfl rfl
  have hb := below_alloc w3 (.cells #[.int .i64 rt0, .slice va r0.length vc] 29)
  have z4 := size_alloc' w3 (.cells #[.int .i64 rt0, .slice va r0.length vc] 29)
  generalize hw : w3.alloc (.cells #[.int .i64 rt0, .slice va r0.length vc] 29) = w4 at *
  clear hw
  have s4 : w3.heap.size ≤ w4.heap.size := hb.size
  have n4_0 : w.heap.size < w4.heap.size := by omega
  replace x0_0 := cell_below hb x0_0 (by omega)
  replace x0_1 := cell_below hb x0_1 (by omega)
  have HB4 := Lib.hid (HB3.out.trans (hb.mono (by omega)))
  replace Ov := Lib.hid (Ov.out.below hb)
  clear hb
  refine (netfns.to_any a0 ls0 c0 t0 _ (HR0.out.below HB4.out) (by omega)).mono ?_
  rintro e w5 ⟨v, rfl, ho, hb⟩
  obtain ⟨x0a, x0c, rfl, _, _, _⟩ := ho.slice
  have s5 : w4.heap.size ≤ w5.heap.size := hb.size
  have n5_0 : w.heap.size < w5.heap.size := by omega
  have n5_1 : w3.heap.size < w5.heap.size := by omega
  replace x0_0 := cell_below hb x0_0 (by omega)
  replace x0_1 := cell_below hb x0_1 (by omega)
  replace yv_0 := cell_below hb yv_0 (by omega)
  replace yv_1 := cell_below hb yv_1 (by omega)
  have HB5 := Lib.hid (HB4.out.trans (hb.mono (by omega)))
  replace Ov := Lib.hid (Ov.out.below hb)
  clear hb
  have Ox0 := Lib.hid ho
  clear ho
  go_wp2_with fail
  have p0_0 : (w5.alloc (.cells #[.int .i64 t0, .slice x0a ls0.length x0c] 29)).cell? ⟨w5.heap.size, 0, none⟩ = some (.int .i64 t0) := cell_new _ _ _ rfl rfl
  have p0_1 : (w5.alloc (.cells #[.int .i64 t0, .slice x0a ls0.length x0c] 29)).cell? ⟨w5.heap.size, 1, none⟩ = some (.slice x0a ls0.length x0c) := cell_new _ _ _ rfl rfl
  have hb := below_alloc w5 (.cells #[.int .i64 t0, .slice x0a ls0.length x0c] 29)
  have z6 := size_alloc' w5 (.cells #[.int .i64 t0, .slice x0a ls0.length x0c] 29)
  generalize hw : w5.alloc (.cells #[.int .i64 t0, .slice x0a ls0.length x0c] 29) = w6 at *
  clear hw
  have s6 : w5.heap.size ≤ w6.heap.size := hb.size
  have n6_0 : w.heap.size < w6.heap.size := by omega
  have n6_1 : w3.heap.size < w6.heap.size := by omega
  replace x0_0 := cell_below hb x0_0 (by omega)
  replace x0_1 := cell_below hb x0_1 (by omega)
  replace yv_0 := cell_below hb yv_0 (by omega)
  replace yv_1 := cell_below hb yv_1 (by omega)
  have HB6 := Lib.hid (HB5.out.trans (hb.mono (by omega)))
  replace Ov := Lib.hid (Ov.out.below hb)
  replace Ox0 := Lib.hid (Ox0.out.below hb)
  clear hb
  refine (HImpl.out _ _ _ Ox0.out.reads).mono ?_
  rintro e w7 ⟨v, rfl, ho, hb⟩
  obtain ⟨ga, gc, rfl, _, _, _⟩ := ho.slice
  have s7 : w6.heap.size ≤ w7.heap.size := hb.size
  have n7_0 : w.heap.size < w7.heap.size := by omega
  have n7_1 : w3.heap.size < w7.heap.size := by omega
  have n7_2 : w5.heap.size < w7.heap.size := by omega
  replace x0_0 := cell_below hb x0_0 (by omega)
  replace x0_1 := cell_below hb x0_1 (by omega)
  replace yv_0 := cell_below hb yv_0 (by omega)
  replace yv_1 := cell_below hb yv_1 (by omega)
  replace p0_0 := cell_below hb p0_0 (by omega)
  replace p0_1 := cell_below hb p0_1 (by omega)
  have HB7 := Lib.hid (HB6.out.trans (hb.mono (by omega)))
  replace Ov := Lib.hid (Ov.out.below hb)
  replace Ox0 := Lib.hid (Ox0.out.below hb)
  clear hb
  have Og := Lib.hid ho
  clear ho
  go_wp2_with fail
  have yg_0 : (w7.alloc (.cells #[.int .i64 rt0, .slice ga r0.length gc] 29)).cell? ⟨w7.heap.size, 0, none⟩ = some (.int .i64 rt0) := cell_new _ _ _ rfl rfl
  have yg_1 : (w7.alloc (.cells #[.int .i64 rt0, .slice ga r0.length gc] 29)).cell? ⟨w7.heap.size, 1, none⟩ = some (.slice ga r0.length gc) := cell_new _ _ _ rfl rfl
  have hb := below_alloc w7 (.cells #[.int .i64 rt0, .slice ga r0.length gc] 29)
  have z8 := size_alloc' w7 (.cells #[.int .i64 rt0, .slice ga r0.length gc] 29)
  generalize hw : w7.alloc (.cells #[.int .i64 rt0, .slice ga r0.length gc] 29) = w8 at *
  clear hw
  have s8 : w7.heap.size ≤ w8.heap.size := hb.size
  have n8_0 : w.heap.size < w8.heap.size := by omega
  have n8_1 : w3.heap.size < w8.heap.size := by omega
  have n8_2 : w5.heap.size < w8.heap.size := by omega
  replace x0_0 := cell_below hb x0_0 (by omega)
  replace x0_1 := cell_below hb x0_1 (by omega)
  replace yv_0 := cell_below hb yv_0 (by omega)
  replace yv_1 := cell_below hb yv_1 (by omega)
  replace p0_0 := cell_below hb p0_0 (by omega)
  replace p0_1 := cell_below hb p0_1 (by omega)
  have HB8 := Lib.hid (HB7.out.trans (hb.mono (by omega)))
  replace Ov := Lib.hid (Ov.out.below hb)
  replace Ox0 := Lib.hid (Ox0.out.below hb)
  replace Og := Lib.hid (Og.out.below hb)
  clear hb
  refine (netfns.eq_same _ _ r0 _ _ rt0 _ Og.out.reads Ov.out.reads (by omega) (fun s hs => by have h9 := len_le_totL r0 s hs; refine ⟨by omega, fun y hy => ?_⟩; have := planesfns.len_le_totJ s y hy; omega)).mono ?_
  rintro e w9 ⟨rfl, hb⟩
  have s9 : w8.heap.size ≤ w9.heap.size := hb.size
  have n9_0 : w.heap.size < w9.heap.size := by omega
  have n9_1 : w3.heap.size < w9.heap.size := by omega
  have n9_2 : w5.heap.size < w9.heap.size := by omega
  have n9_3 : w7.heap.size < w9.heap.size := by omega
  replace x0_0 := cell_below hb x0_0 (by omega)
  replace x0_1 := cell_below hb x0_1 (by omega)
  replace yv_0 := cell_below hb yv_0 (by omega)
  replace yv_1 := cell_below hb yv_1 (by omega)
  replace p0_0 := cell_below hb p0_0 (by omega)
  replace p0_1 := cell_below hb p0_1 (by omega)
  replace yg_0 := cell_below hb yg_0 (by omega)
  replace yg_1 := cell_below hb yg_1 (by omega)
  have HB9 := Lib.hid (HB8.out.trans (hb.mono (by omega)))
  replace Ov := Lib.hid (Ov.out.below hb)
  replace Ox0 := Lib.hid (Ox0.out.below hb)
  replace Og := Lib.hid (Og.out.below hb)
  clear hb
  go_wp2_with fail
  have HT1 := Lib.hid (show ∀ wa : World, (wa.cell? ⟨w.heap.size, 0, none⟩ = some (.int .i64 t0) ∧ wa.cell? ⟨w.heap.size, 1, none⟩ = some (.slice a0 ls0.length c0) ∧ wa.cell? ⟨w3.heap.size, 0, none⟩ = some (.int .i64 rt0) ∧ wa.cell? ⟨w3.heap.size, 1, none⟩ = some (.slice va r0.length vc) ∧ wa.cell? ⟨w5.heap.size, 0, none⟩ = some (.int .i64 t0) ∧ wa.cell? ⟨w5.heap.size, 1, none⟩ = some (.slice x0a ls0.length x0c) ∧ wa.cell? ⟨w7.heap.size, 0, none⟩ = some (.int .i64 rt0) ∧ wa.cell? ⟨w7.heap.size, 1, none⟩ = some (.slice ga r0.length gc) ∧ Below w9.heap.size w9 wa) → Calls Try.prog 17 #[.agg #[.int .i64 t0, .slice a0 ls0.length c0]] wa fun e w' => ∃ p q, e = .returned (.agg #[.int .i64 t0, .slice p ls0.length q]) ∧ ReadsL w' p ls0 ∧ (w'.cell? ⟨w.heap.size, 0, none⟩ = some (.int .i64 t0) ∧ w'.cell? ⟨w.heap.size, 1, none⟩ = some (.slice a0 ls0.length c0) ∧ w'.cell? ⟨w3.heap.size, 0, none⟩ = some (.int .i64 rt0) ∧ w'.cell? ⟨w3.heap.size, 1, none⟩ = some (.slice va r0.length vc) ∧ w'.cell? ⟨w5.heap.size, 0, none⟩ = some (.int .i64 t0) ∧ w'.cell? ⟨w5.heap.size, 1, none⟩ = some (.slice x0a ls0.length x0c) ∧ w'.cell? ⟨w7.heap.size, 0, none⟩ = some (.int .i64 rt0) ∧ w'.cell? ⟨w7.heap.size, 1, none⟩ = some (.slice ga r0.length gc) ∧ Below w9.heap.size w9 w') from fun wa hS => by
    have hz := hS.2.2.2.2.2.2.2.2.size
    refine (netfns.to_any a0 ls0 c0 t0 _ (HR0.out.below (HB9.out.trans (hS.2.2.2.2.2.2.2.2.mono (by omega)))) (by omega)).mono ?_
    rintro e w' ⟨v, rfl, ho, hb⟩
    obtain ⟨p, q, rfl, _, _, _⟩ := ho.slice
    exact ⟨p, q, rfl, ho.reads, cell_below hb hS.1 (by omega), cell_below hb hS.2.1 (by omega), cell_below hb hS.2.2.1 (by omega), cell_below hb hS.2.2.2.1 (by omega), cell_below hb hS.2.2.2.2.1 (by omega), cell_below hb hS.2.2.2.2.2.1 (by omega), cell_below hb hS.2.2.2.2.2.2.1 (by omega), cell_below hb hS.2.2.2.2.2.2.2.1 (by omega), hS.2.2.2.2.2.2.2.2.trans (hb.mono (by omega))⟩)
  have HT2 := Lib.hid (show ∀ (wa : World) (p : Option Addr) (q : Nat), (wa.cell? ⟨w.heap.size, 0, none⟩ = some (.int .i64 t0) ∧ wa.cell? ⟨w.heap.size, 1, none⟩ = some (.slice a0 ls0.length c0) ∧ wa.cell? ⟨w3.heap.size, 0, none⟩ = some (.int .i64 rt0) ∧ wa.cell? ⟨w3.heap.size, 1, none⟩ = some (.slice va r0.length vc) ∧ wa.cell? ⟨w5.heap.size, 0, none⟩ = some (.int .i64 t0) ∧ wa.cell? ⟨w5.heap.size, 1, none⟩ = some (.slice x0a ls0.length x0c) ∧ wa.cell? ⟨w7.heap.size, 0, none⟩ = some (.int .i64 rt0) ∧ wa.cell? ⟨w7.heap.size, 1, none⟩ = some (.slice ga r0.length gc) ∧ Below w9.heap.size w9 wa) → ReadsL wa p ls0 → Calls Try.prog 19 #[.agg #[.int .i64 t0, .slice x0a ls0.length x0c], .agg #[.int .i64 t0, .slice p ls0.length q]] wa fun e w' => e = .returned (.bool true) ∧ (w'.cell? ⟨w.heap.size, 0, none⟩ = some (.int .i64 t0) ∧ w'.cell? ⟨w.heap.size, 1, none⟩ = some (.slice a0 ls0.length c0) ∧ w'.cell? ⟨w3.heap.size, 0, none⟩ = some (.int .i64 rt0) ∧ w'.cell? ⟨w3.heap.size, 1, none⟩ = some (.slice va r0.length vc) ∧ w'.cell? ⟨w5.heap.size, 0, none⟩ = some (.int .i64 t0) ∧ w'.cell? ⟨w5.heap.size, 1, none⟩ = some (.slice x0a ls0.length x0c) ∧ w'.cell? ⟨w7.heap.size, 0, none⟩ = some (.int .i64 rt0) ∧ w'.cell? ⟨w7.heap.size, 1, none⟩ = some (.slice ga r0.length gc) ∧ Below w9.heap.size w9 w') from fun wa p q hS k1 => by
    have hz := hS.2.2.2.2.2.2.2.2.size
    have ho := Ox0.out.below hS.2.2.2.2.2.2.2.2
    refine (netfns.eq_same _ _ ls0 _ _ t0 _ ho.reads k1 (by omega) (fun s hs => by have h9 := len_le_totL ls0 s hs; refine ⟨by omega, fun y hy => ?_⟩; have := planesfns.len_le_totJ s y hy; omega)).mono ?_
    rintro e w' ⟨rfl, hb⟩
    exact ⟨rfl, cell_below hb hS.1 (by omega), cell_below hb hS.2.1 (by omega), cell_below hb hS.2.2.1 (by omega), cell_below hb hS.2.2.2.1 (by omega), cell_below hb hS.2.2.2.2.1 (by omega), cell_below hb hS.2.2.2.2.2.1 (by omega), cell_below hb hS.2.2.2.2.2.2.1 (by omega), cell_below hb hS.2.2.2.2.2.2.2.1 (by omega), hS.2.2.2.2.2.2.2.2.trans (hb.mono (by omega))⟩)
  go_region_held3 (fun w' => w'.cell? ⟨w.heap.size, 0, none⟩ = some (.int .i64 t0) ∧ w'.cell? ⟨w.heap.size, 1, none⟩ = some (.slice a0 ls0.length c0) ∧ w'.cell? ⟨w3.heap.size, 0, none⟩ = some (.int .i64 rt0) ∧ w'.cell? ⟨w3.heap.size, 1, none⟩ = some (.slice va r0.length vc) ∧ w'.cell? ⟨w5.heap.size, 0, none⟩ = some (.int .i64 t0) ∧ w'.cell? ⟨w5.heap.size, 1, none⟩ = some (.slice x0a ls0.length x0c) ∧ w'.cell? ⟨w7.heap.size, 0, none⟩ = some (.int .i64 rt0) ∧ w'.cell? ⟨w7.heap.size, 1, none⟩ = some (.slice ga r0.length gc) ∧ Below w9.heap.size w9 w') (first | assumption | exact ⟨x0_0, x0_1, yv_0, yv_1, p0_0, p0_1, yg_0, yg_1, Below.refl _ _⟩ | exact ⟨x0_0, x0_1, yv_0, yv_1, p0_0, p0_1, yg_0, yg_1, (Below.refl _ _).drew⟩) (first | (go_at_call 17; refine Calls.mono (HT1.out _ ?_) ?_; assumption; rintro e w' ⟨p, q, rfl, k1, hbx⟩) | (go_at_call 19; refine Calls.mono (HT2.out _ _ _ ?_ ?_) ?_; assumption; assumption; rintro e w10 ⟨rfl, hbx⟩))
  obtain ⟨_, _, _, _, _, _, _, _, hb⟩ := hbx
  have s10 : w9.heap.size ≤ w10.heap.size := hb.size
  have n10_0 : w.heap.size < w10.heap.size := by omega
  have n10_1 : w3.heap.size < w10.heap.size := by omega
  have n10_2 : w5.heap.size < w10.heap.size := by omega
  have n10_3 : w7.heap.size < w10.heap.size := by omega
  replace x0_0 := cell_below hb x0_0 (by omega)
  replace x0_1 := cell_below hb x0_1 (by omega)
  replace yv_0 := cell_below hb yv_0 (by omega)
  replace yv_1 := cell_below hb yv_1 (by omega)
  replace p0_0 := cell_below hb p0_0 (by omega)
  replace p0_1 := cell_below hb p0_1 (by omega)
  replace yg_0 := cell_below hb yg_0 (by omega)
  replace yg_1 := cell_below hb yg_1 (by omega)
  have HB10 := Lib.hid (HB9.out.trans (hb.mono (by omega)))
  replace Ov := Lib.hid (Ov.out.below hb)
  replace Ox0 := Lib.hid (Ox0.out.below hb)
  replace Og := Lib.hid (Og.out.below hb)
  clear hb
  clear HT1 HT2
  go_wp2_with fail
  refine (netfns.mark_any (w4.heap.size) (w5.heap.size) _ _ ls0 t0 (1) _ Ox0.out (by omega) (by omega)).mono ?_
  rintro e w11 ⟨rfl, ho, hb⟩
  have s11 : w10.heap.size ≤ w11.heap.size := hb.size
  have n11_0 : w.heap.size < w11.heap.size := by omega
  have n11_1 : w3.heap.size < w11.heap.size := by omega
  have n11_2 : w5.heap.size < w11.heap.size := by omega
  have n11_3 : w7.heap.size < w11.heap.size := by omega
  replace x0_0 := hb.cell x0_0 (by omega) (by omega)
  replace x0_1 := hb.cell x0_1 (by omega) (by omega)
  replace yv_0 := hb.cell yv_0 (by omega) (by omega)
  replace yv_1 := hb.cell yv_1 (by omega) (by omega)
  replace p0_0 := hb.cell p0_0 (by omega) (by omega)
  replace p0_1 := hb.cell p0_1 (by omega) (by omega)
  replace yg_0 := hb.cell yg_0 (by omega) (by omega)
  replace yg_1 := hb.cell yg_1 (by omega) (by omega)
  have HB11 := Lib.hid (HB10.out.trans ((hb.below (by omega)).mono (by omega)))
  replace Ov := Lib.hid (Ov.out.only hb (by omega))
  replace Og := Lib.hid (Og.out.only hb (by omega))
  clear hb
  replace Ox0 := Lib.hid ho
  clear ho
  go_wp2_with fail
  refine (netfns.eq_same _ _ r0 _ _ rt0 _ Og.out.reads Ov.out.reads (by omega) (fun s hs => by have h9 := len_le_totL r0 s hs; refine ⟨by omega, fun y hy => ?_⟩; have := planesfns.len_le_totJ s y hy; omega)).mono ?_
  rintro e w12 ⟨rfl, hb⟩
  have s12 : w11.heap.size ≤ w12.heap.size := hb.size
  have n12_0 : w.heap.size < w12.heap.size := by omega
  have n12_1 : w3.heap.size < w12.heap.size := by omega
  have n12_2 : w5.heap.size < w12.heap.size := by omega
  have n12_3 : w7.heap.size < w12.heap.size := by omega
  replace x0_0 := cell_below hb x0_0 (by omega)
  replace x0_1 := cell_below hb x0_1 (by omega)
  replace yv_0 := cell_below hb yv_0 (by omega)
  replace yv_1 := cell_below hb yv_1 (by omega)
  replace p0_0 := cell_below hb p0_0 (by omega)
  replace p0_1 := cell_below hb p0_1 (by omega)
  replace yg_0 := cell_below hb yg_0 (by omega)
  replace yg_1 := cell_below hb yg_1 (by omega)
  have HB12 := Lib.hid (HB11.out.trans (hb.mono (by omega)))
  replace Ov := Lib.hid (Ov.out.below hb)
  replace Ox0 := Lib.hid (Ox0.out.below hb)
  replace Og := Lib.hid (Og.out.below hb)
  clear hb
  go_wp2_with fail
  clear Ox0
  refine (netfns.mark_any (w6.heap.size) (w7.heap.size) _ _ r0 rt0 (1) _ Og.out (by omega) (by omega)).mono ?_
  rintro e w13 ⟨rfl, ho, hb⟩
  have s13 : w12.heap.size ≤ w13.heap.size := hb.size
  have n13_0 : w.heap.size < w13.heap.size := by omega
  have n13_1 : w3.heap.size < w13.heap.size := by omega
  have n13_2 : w5.heap.size < w13.heap.size := by omega
  have n13_3 : w7.heap.size < w13.heap.size := by omega
  replace x0_0 := hb.cell x0_0 (by omega) (by omega)
  replace x0_1 := hb.cell x0_1 (by omega) (by omega)
  replace yv_0 := hb.cell yv_0 (by omega) (by omega)
  replace yv_1 := hb.cell yv_1 (by omega) (by omega)
  replace p0_0 := hb.cell p0_0 (by omega) (by omega)
  replace p0_1 := hb.cell p0_1 (by omega) (by omega)
  replace yg_0 := hb.cell yg_0 (by omega) (by omega)
  replace yg_1 := hb.cell yg_1 (by omega) (by omega)
  have HB13 := Lib.hid (HB12.out.trans ((hb.below (by omega)).mono (by omega)))
  replace Ov := Lib.hid (Ov.out.only hb (by omega))
  clear hb
  replace Og := Lib.hid ho
  clear ho
  go_wp2_with fail
  refine (netfns.held_any _ _ r0 _ (1) _ Og.out.reads (by omega) (by omega)).mono ?_
  rintro e w14 ⟨rfl, hb⟩
  have s14 : w13.heap.size ≤ w14.heap.size := hb.size
  have n14_0 : w.heap.size < w14.heap.size := by omega
  have n14_1 : w3.heap.size < w14.heap.size := by omega
  have n14_2 : w5.heap.size < w14.heap.size := by omega
  have n14_3 : w7.heap.size < w14.heap.size := by omega
  replace x0_0 := cell_below hb x0_0 (by omega)
  replace x0_1 := cell_below hb x0_1 (by omega)
  replace yv_0 := cell_below hb yv_0 (by omega)
  replace yv_1 := cell_below hb yv_1 (by omega)
  replace p0_0 := cell_below hb p0_0 (by omega)
  replace p0_1 := cell_below hb p0_1 (by omega)
  replace yg_0 := cell_below hb yg_0 (by omega)
  replace yg_1 := cell_below hb yg_1 (by omega)
  have HB14 := Lib.hid (HB13.out.trans (hb.mono (by omega)))
  replace Ov := Lib.hid (Ov.out.below hb)
  replace Og := Lib.hid (Og.out.below hb)
  clear hb
  go_wp2_with fail
  refine (netfns.to_any a0 ls0 c0 t0 _ (HR0.out.below HB14.out) (by omega)).mono ?_
  rintro e w15 ⟨v, rfl, ho, hb⟩
  obtain ⟨h0a, h0c, rfl, _, _, _⟩ := ho.slice
  have s15 : w14.heap.size ≤ w15.heap.size := hb.size
  have n15_0 : w.heap.size < w15.heap.size := by omega
  have n15_1 : w3.heap.size < w15.heap.size := by omega
  have n15_2 : w5.heap.size < w15.heap.size := by omega
  have n15_3 : w7.heap.size < w15.heap.size := by omega
  replace x0_0 := cell_below hb x0_0 (by omega)
  replace x0_1 := cell_below hb x0_1 (by omega)
  replace yv_0 := cell_below hb yv_0 (by omega)
  replace yv_1 := cell_below hb yv_1 (by omega)
  replace p0_0 := cell_below hb p0_0 (by omega)
  replace p0_1 := cell_below hb p0_1 (by omega)
  replace yg_0 := cell_below hb yg_0 (by omega)
  replace yg_1 := cell_below hb yg_1 (by omega)
  have HB15 := Lib.hid (HB14.out.trans (hb.mono (by omega)))
  replace Ov := Lib.hid (Ov.out.below hb)
  replace Og := Lib.hid (Og.out.below hb)
  clear hb
  have Oh0 := Lib.hid ho
  clear ho
  go_wp2_with fail
  refine (HImpl.out _ _ _ Oh0.out.reads).mono ?_
  rintro e w16 ⟨v, rfl, ho, hb⟩
  obtain ⟨ha, hc, rfl, _, _, _⟩ := ho.slice
  have s16 : w15.heap.size ≤ w16.heap.size := hb.size
  have n16_0 : w.heap.size < w16.heap.size := by omega
  have n16_1 : w3.heap.size < w16.heap.size := by omega
  have n16_2 : w5.heap.size < w16.heap.size := by omega
  have n16_3 : w7.heap.size < w16.heap.size := by omega
  replace x0_0 := cell_below hb x0_0 (by omega)
  replace x0_1 := cell_below hb x0_1 (by omega)
  replace yv_0 := cell_below hb yv_0 (by omega)
  replace yv_1 := cell_below hb yv_1 (by omega)
  replace p0_0 := cell_below hb p0_0 (by omega)
  replace p0_1 := cell_below hb p0_1 (by omega)
  replace yg_0 := cell_below hb yg_0 (by omega)
  replace yg_1 := cell_below hb yg_1 (by omega)
  have HB16 := Lib.hid (HB15.out.trans (hb.mono (by omega)))
  replace Ov := Lib.hid (Ov.out.below hb)
  replace Og := Lib.hid (Og.out.below hb)
  replace Oh0 := Lib.hid (Oh0.out.below hb)
  clear hb
  have Oh := Lib.hid ho
  clear ho
  clear Oh0
  go_wp2_with fail
  have yh_0 : (w16.alloc (.cells #[.int .i64 rt0, .slice ha r0.length hc] 29)).cell? ⟨w16.heap.size, 0, none⟩ = some (.int .i64 rt0) := cell_new _ _ _ rfl rfl
  have yh_1 : (w16.alloc (.cells #[.int .i64 rt0, .slice ha r0.length hc] 29)).cell? ⟨w16.heap.size, 1, none⟩ = some (.slice ha r0.length hc) := cell_new _ _ _ rfl rfl
  have hb := below_alloc w16 (.cells #[.int .i64 rt0, .slice ha r0.length hc] 29)
  have z17 := size_alloc' w16 (.cells #[.int .i64 rt0, .slice ha r0.length hc] 29)
  generalize hw : w16.alloc (.cells #[.int .i64 rt0, .slice ha r0.length hc] 29) = w17 at *
  clear hw
  have s17 : w16.heap.size ≤ w17.heap.size := hb.size
  have n17_0 : w.heap.size < w17.heap.size := by omega
  have n17_1 : w3.heap.size < w17.heap.size := by omega
  have n17_2 : w5.heap.size < w17.heap.size := by omega
  have n17_3 : w7.heap.size < w17.heap.size := by omega
  replace x0_0 := cell_below hb x0_0 (by omega)
  replace x0_1 := cell_below hb x0_1 (by omega)
  replace yv_0 := cell_below hb yv_0 (by omega)
  replace yv_1 := cell_below hb yv_1 (by omega)
  replace p0_0 := cell_below hb p0_0 (by omega)
  replace p0_1 := cell_below hb p0_1 (by omega)
  replace yg_0 := cell_below hb yg_0 (by omega)
  replace yg_1 := cell_below hb yg_1 (by omega)
  have HB17 := Lib.hid (HB16.out.trans (hb.mono (by omega)))
  replace Ov := Lib.hid (Ov.out.below hb)
  replace Og := Lib.hid (Og.out.below hb)
  replace Oh := Lib.hid (Oh.out.below hb)
  clear hb
  refine (netfns.eq_same _ _ r0 _ _ rt0 _ Oh.out.reads Ov.out.reads (by omega) (fun s hs => by have h9 := len_le_totL r0 s hs; refine ⟨by omega, fun y hy => ?_⟩; have := planesfns.len_le_totJ s y hy; omega)).mono ?_
  rintro e w18 ⟨rfl, hb⟩
  have s18 : w17.heap.size ≤ w18.heap.size := hb.size
  have n18_0 : w.heap.size < w18.heap.size := by omega
  have n18_1 : w3.heap.size < w18.heap.size := by omega
  have n18_2 : w5.heap.size < w18.heap.size := by omega
  have n18_3 : w7.heap.size < w18.heap.size := by omega
  have n18_4 : w16.heap.size < w18.heap.size := by omega
  replace x0_0 := cell_below hb x0_0 (by omega)
  replace x0_1 := cell_below hb x0_1 (by omega)
  replace yv_0 := cell_below hb yv_0 (by omega)
  replace yv_1 := cell_below hb yv_1 (by omega)
  replace p0_0 := cell_below hb p0_0 (by omega)
  replace p0_1 := cell_below hb p0_1 (by omega)
  replace yg_0 := cell_below hb yg_0 (by omega)
  replace yg_1 := cell_below hb yg_1 (by omega)
  replace yh_0 := cell_below hb yh_0 (by omega)
  replace yh_1 := cell_below hb yh_1 (by omega)
  have HB18 := Lib.hid (HB17.out.trans (hb.mono (by omega)))
  replace Ov := Lib.hid (Ov.out.below hb)
  replace Og := Lib.hid (Og.out.below hb)
  replace Oh := Lib.hid (Oh.out.below hb)
  clear hb
  go_wp2_with fail
  refine (netfns.held_any _ _ r0 _ (1) _ Og.out.reads (by omega) (by omega)).mono ?_
  rintro e w19 ⟨rfl, hb⟩
  have s19 : w18.heap.size ≤ w19.heap.size := hb.size
  have n19_0 : w.heap.size < w19.heap.size := by omega
  have n19_1 : w3.heap.size < w19.heap.size := by omega
  have n19_2 : w5.heap.size < w19.heap.size := by omega
  have n19_3 : w7.heap.size < w19.heap.size := by omega
  have n19_4 : w16.heap.size < w19.heap.size := by omega
  replace x0_0 := cell_below hb x0_0 (by omega)
  replace x0_1 := cell_below hb x0_1 (by omega)
  replace yv_0 := cell_below hb yv_0 (by omega)
  replace yv_1 := cell_below hb yv_1 (by omega)
  replace p0_0 := cell_below hb p0_0 (by omega)
  replace p0_1 := cell_below hb p0_1 (by omega)
  replace yg_0 := cell_below hb yg_0 (by omega)
  replace yg_1 := cell_below hb yg_1 (by omega)
  replace yh_0 := cell_below hb yh_0 (by omega)
  replace yh_1 := cell_below hb yh_1 (by omega)
  have HB19 := Lib.hid (HB18.out.trans (hb.mono (by omega)))
  replace Ov := Lib.hid (Ov.out.below hb)
  replace Og := Lib.hid (Og.out.below hb)
  replace Oh := Lib.hid (Oh.out.below hb)
  clear hb
  go_wp2_with fail
  go_ret
  exact ⟨rfl, HB19.out⟩
end Go.Proofs.Ytoephhhofkmgjaa.fnExactNegateNetw
