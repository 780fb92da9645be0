/- Several texts in one. -/
import Derived.Deep.RegionHeld3
import Derived.Maps.AppendAt
import Derived.Test.YtoephhhofkmgjabSpG8
import Derived.Test.YtoephhhofkmgjabSpG6
import Derived.Test.YtoephhhofkmgjabSpG7
namespace Go.Proofs.Ytoephhhofkmgjab.fnExactSinglePlanew
open Go.RowKit own
set_option linter.unusedVariables false
set_option linter.unusedSimpArgs false

set_option maxHeartbeats 1000000 in
theorem exit_sz0 (a0 : Option Addr) (ls0 : List (List (List Int × Int))) (c0 : Nat) (t0 : Int) (w : World) (hr0 : ReadsL w a0 ls0) (hl0 : ls0.length ≤ 9223372036854775807) (hm0 : ∀ x ∈ ls0, x.length ≤ 9223372036854775807 ∧ ∀ y ∈ x, y.1.length ≤ 9223372036854775807)  (hx : 1048576 < (ls0.length : Int) + (totL ls0 : Int)) : Calls Try.prog 6 #[.agg #[.int .i64 t0, .slice a0 ls0.length c0]] w fun e w' => e = .returned (.bool true) ∧ Below w.heap.size w w' := by
  have HR0 := Lib.hid hr0
  clear hr0
  have HM0 := Lib.hid hm0
  clear hm0
  go_enter Try.func6, Try.ntmps6
  go_wp2_with fail
  have x0_0 : (w.alloc (.cells #[.int .i64 t0, .slice a0 ls0.length c0] 43)).cell? ⟨w.heap.size, 0, none⟩ = some (.int .i64 t0) := cell_new _ _ _ (by simp) rfl
  have x0_1 : (w.alloc (.cells #[.int .i64 t0, .slice a0 ls0.length c0] 43)).cell? ⟨w.heap.size, 1, none⟩ = some (.slice a0 ls0.length c0) := cell_new _ _ _ (by simp) rfl
  have HB0 := Lib.hid (below_alloc w (.cells #[.int .i64 t0, .slice a0 ls0.length c0] 43))
  have s0_0 := size_alloc' w (.cells #[.int .i64 t0, .slice a0 ls0.length c0] 43)
  have s0 : w.heap.size + 1 ≤ (w.alloc (.cells #[.int .i64 t0, .slice a0 ls0.length c0] 43)).heap.size := by simp
  clear s0_0
  generalize hw : (w.alloc (.cells #[.int .i64 t0, .slice a0 ls0.length c0] 43)) = w0 at *
  clear hw
  refine (netfns.sz_no _ ls0 _ _ _ _ (HR0.out.below HB0.out) (by omega) HM0.out (by omega) (by omega) (by omega)).mono ?_
  rintro e w1 ⟨rfl, hb⟩
  have s1 : w0.heap.size ≤ w1.heap.size := hb.size
  have n1_0 : w.heap.size < w1.heap.size := by omega
  replace x0_0 := cell_below hb x0_0 (by omega)
  replace x0_1 := cell_below hb x0_1 (by omega)
  have HB1 := Lib.hid (HB0.out.trans (hb.mono (by omega)))
  clear hb
  go_wp2_with fail
  go_ret
  exact ⟨rfl, HB1.out⟩

theorem law_big (a0 : Option Addr) (ls0 : List (List (List Int × Int))) (c0 : Nat) (t0 : Int) (w : World) (hr0 : ReadsL w a0 ls0) (hl0 : ls0.length ≤ 9223372036854775807) (hm0 : ∀ x ∈ ls0, x.length ≤ 9223372036854775807 ∧ ∀ y ∈ x, y.1.length ≤ 9223372036854775807) (hx : ¬ ((ls0.length : Int) + (totL ls0 : Int) ≤ 1048576)) : Calls Try.prog 6 #[.agg #[.int .i64 t0, .slice a0 ls0.length c0]] w fun e w' => e = .returned (.bool true) ∧ Below w.heap.size w w' := by
  by_cases k0 : 1048576 < (ls0.length : Int) + (totL ls0 : Int)
  · exact exit_sz0 a0 ls0 c0 t0 w hr0 hl0 hm0   k0
  · exact absurd (by omega) hx

set_option maxRecDepth 100000 in
set_option maxHeartbeats 4000000 in
theorem law_small (a0 : Option Addr) (ls0 : List (List (List Int × Int))) (c0 : Nat) (t0 : Int) (r0 : List Int) (rb0 : Int) (ok : Bool) (w : World) (hr0 : ReadsL w a0 ls0) (h0 : (ls0.length : Int) + (totL ls0 : Int) ≤ 1048576) (hz0 : r0.length ≤ 1048576)
    (HSpec : Hid (∀ (a0 : Option Addr) (c0 : Nat) (w : World), ReadsL w a0 ls0 → Calls Try.prog 24 #[.agg #[.int .i64 t0, .slice a0 ls0.length c0]] w (RetPB r0 rb0 ok w)))
    (HImpl : Hid (∀ (a0 : Option Addr) (c0 : Nat) (w : World), ReadsL w a0 ls0 → Calls Try.prog 26 #[.agg #[.int .i64 t0, .slice a0 ls0.length c0]] w (RetPB r0 rb0 ok w))) :
    Calls Try.prog 6 #[.agg #[.int .i64 t0, .slice a0 ls0.length c0]] w fun e w' => e = .returned (.bool true) ∧ Below w.heap.size w w' := by
  have HR0 := Lib.hid hr0
  clear hr0
  go_enter Try.func6, Try.ntmps6
  go_wp2_with fail
  have x0_0 : (w.alloc (.cells #[.int .i64 t0, .slice a0 ls0.length c0] 43)).cell? ⟨w.heap.size, 0, none⟩ = some (.int .i64 t0) := cell_new _ _ _ (by simp) rfl
  have x0_1 : (w.alloc (.cells #[.int .i64 t0, .slice a0 ls0.length c0] 43)).cell? ⟨w.heap.size, 1, none⟩ = some (.slice a0 ls0.length c0) := cell_new _ _ _ (by simp) rfl
  have HB0 := Lib.hid (below_alloc w (.cells #[.int .i64 t0, .slice a0 ls0.length c0] 43))
  have s0_0 := size_alloc' w (.cells #[.int .i64 t0, .slice a0 ls0.length c0] 43)
  have s0 : w.heap.size + 1 ≤ (w.alloc (.cells #[.int .i64 t0, .slice a0 ls0.length c0] 43)).heap.size := by simp
  clear s0_0
  generalize hw : (w.alloc (.cells #[.int .i64 t0, .slice a0 ls0.length c0] 43)) = w0 at *
  clear hw
  refine (netfns.sz_yes _ ls0 _ _ _ _ (HR0.out.below HB0.out) (by omega) (by omega)).mono ?_
  rintro e w1 ⟨rfl, hb⟩
  have s1 : w0.heap.size ≤ w1.heap.size := hb.size
  have n1_0 : w.heap.size < w1.heap.size := by omega
  replace x0_0 := cell_below hb x0_0 (by omega)
  replace x0_1 := cell_below hb x0_1 (by omega)
  have HB1 := Lib.hid (HB0.out.trans (hb.mono (by omega)))
  clear hb
  go_wp2_with fail
  refine (netfns.to_any a0 ls0 c0 t0 _ (HR0.out.below HB1.out) (by omega)).mono ?_
  rintro e w2 ⟨v, rfl, ho, hb⟩
  obtain ⟨s0a, s0c, rfl, _, _, _⟩ := ho.slice
  have s2 : w1.heap.size ≤ w2.heap.size := hb.size
  have n2_0 : w.heap.size < w2.heap.size := by omega
  replace x0_0 := cell_below hb x0_0 (by omega)
  replace x0_1 := cell_below hb x0_1 (by omega)
  have HB2 := Lib.hid (HB1.out.trans (hb.mono (by omega)))
  clear hb
  have Os0 := Lib.hid ho
  clear ho
  go_wp2_with fail
  refine (HSpec.out _ _ _ Os0.out.reads).mono ?_
  rintro e w3 ⟨v, rfl, ho, hb⟩
  obtain ⟨va, vc, rfl, _, _, _⟩ := ho.slice
  have s3 : w2.heap.size ≤ w3.heap.size := hb.size
  have n3_0 : w.heap.size < w3.heap.size := by omega
  replace x0_0 := cell_below hb x0_0 (by omega)
  replace x0_1 := cell_below hb x0_1 (by omega)
  have HB3 := Lib.hid (HB2.out.trans (hb.mono (by omega)))
  replace Os0 := Lib.hid (Os0.out.below hb)
  clear hb
  have Ov := Lib.hid ho
  clear ho
  clear Os0
  go_wp2_with fail
  have yv_0 : (w3.alloc (.cells #[.slice va r0.length vc, .int .i64 rb0] 46)).cell? ⟨w3.heap.size, 0, none⟩ = some (.slice va r0.length vc) := cell_new _ _ _ rfl rfl
  have yv_1 : (w3.alloc (.cells #[.slice va r0.length vc, .int .i64 rb0] 46)).cell? ⟨w3.heap.size, 1, none⟩ = some (.int .i64 rb0) := cell_new _ _ _ rfl rfl
  have hb := below_alloc w3 (.cells #[.slice va r0.length vc, .int .i64 rb0] 46)
  have z4 := size_alloc' w3 (.cells #[.slice va r0.length vc, .int .i64 rb0] 46)
  generalize hw : w3.alloc (.cells #[.slice va r0.length vc, .int .i64 rb0] 46) = w4 at *
  clear hw
  have s4 : w3.heap.size ≤ w4.heap.size := hb.size
  have n4_0 : w.heap.size < w4.heap.size := by omega
  replace x0_0 := cell_below hb x0_0 (by omega)
  replace x0_1 := cell_below hb x0_1 (by omega)
  have HB4 := Lib.hid (HB3.out.trans (hb.mono (by omega)))
  replace Ov := Lib.hid (Ov.out.below hb)
  clear hb
  refine (netfns.to_any a0 ls0 c0 t0 _ (HR0.out.below HB4.out) (by omega)).mono ?_
  rintro e w5 ⟨v, rfl, ho, hb⟩
  obtain ⟨x0a, x0c, rfl, _, _, _⟩ := ho.slice
  have s5 : w4.heap.size ≤ w5.heap.size := hb.size
  have n5_0 : w.heap.size < w5.heap.size := by omega
  have n5_1 : w3.heap.size < w5.heap.size := by omega
  replace x0_0 := cell_below hb x0_0 (by omega)
  replace x0_1 := cell_below hb x0_1 (by omega)
  replace yv_0 := cell_below hb yv_0 (by omega)
  replace yv_1 := cell_below hb yv_1 (by omega)
  have HB5 := Lib.hid (HB4.out.trans (hb.mono (by omega)))
  replace Ov := Lib.hid (Ov.out.below hb)
  clear hb
  have Ox0 := Lib.hid ho
  clear ho
  go_wp2_with fail
  have p0_0 : (w5.alloc (.cells #[.int .i64 t0, .slice x0a ls0.length x0c] 36)).cell? ⟨w5.heap.size, 0, none⟩ = some (.int .i64 t0) := cell_new _ _ _ rfl rfl
  have p0_1 : (w5.alloc (.cells #[.int .i64 t0, .slice x0a ls0.length x0c] 36)).cell? ⟨w5.heap.size, 1, none⟩ = some (.slice x0a ls0.length x0c) := cell_new _ _ _ rfl rfl
  have hb := below_alloc w5 (.cells #[.int .i64 t0, .slice x0a ls0.length x0c] 36)
  have z6 := size_alloc' w5 (.cells #[.int .i64 t0, .slice x0a ls0.length x0c] 36)
  generalize hw : w5.alloc (.cells #[.int .i64 t0, .slice x0a ls0.length x0c] 36) = w6 at *
  clear hw
  have s6 : w5.heap.size ≤ w6.heap.size := hb.size
  have n6_0 : w.heap.size < w6.heap.size := by omega
  have n6_1 : w3.heap.size < w6.heap.size := by omega
  replace x0_0 := cell_below hb x0_0 (by omega)
  replace x0_1 := cell_below hb x0_1 (by omega)
  replace yv_0 := cell_below hb yv_0 (by omega)
  replace yv_1 := cell_below hb yv_1 (by omega)
  have HB6 := Lib.hid (HB5.out.trans (hb.mono (by omega)))
  replace Ov := Lib.hid (Ov.out.below hb)
  replace Ox0 := Lib.hid (Ox0.out.below hb)
  clear hb
  refine (HImpl.out _ _ _ Ox0.out.reads).mono ?_
  rintro e w7 ⟨v, rfl, ho, hb⟩
  obtain ⟨ga, gc, rfl, _, _, _⟩ := ho.slice
  have s7 : w6.heap.size ≤ w7.heap.size := hb.size
  have n7_0 : w.heap.size < w7.heap.size := by omega
  have n7_1 : w3.heap.size < w7.heap.size := by omega
  have n7_2 : w5.heap.size < w7.heap.size := by omega
  replace x0_0 := cell_below hb x0_0 (by omega)
  replace x0_1 := cell_below hb x0_1 (by omega)
  replace yv_0 := cell_below hb yv_0 (by omega)
  replace yv_1 := cell_below hb yv_1 (by omega)
  replace p0_0 := cell_below hb p0_0 (by omega)
  replace p0_1 := cell_below hb p0_1 (by omega)
  have HB7 := Lib.hid (HB6.out.trans (hb.mono (by omega)))
  replace Ov := Lib.hid (Ov.out.below hb)
  replace Ox0 := Lib.hid (Ox0.out.below hb)
  clear hb
  have Og := Lib.hid ho
  clear ho
  go_wp2_with fail
  have yg_0 : (w7.alloc (.cells #[.slice ga r0.length gc, .int .i64 rb0] 46)).cell? ⟨w7.heap.size, 0, none⟩ = some (.slice ga r0.length gc) := cell_new _ _ _ rfl rfl
  have yg_1 : (w7.alloc (.cells #[.slice ga r0.length gc, .int .i64 rb0] 46)).cell? ⟨w7.heap.size, 1, none⟩ = some (.int .i64 rb0) := cell_new _ _ _ rfl rfl
  have hb := below_alloc w7 (.cells #[.slice ga r0.length gc, .int .i64 rb0] 46)
  have z8 := size_alloc' w7 (.cells #[.slice ga r0.length gc, .int .i64 rb0] 46)
  generalize hw : w7.alloc (.cells #[.slice ga r0.length gc, .int .i64 rb0] 46) = w8 at *
  clear hw
  have s8 : w7.heap.size ≤ w8.heap.size := hb.size
  have n8_0 : w.heap.size < w8.heap.size := by omega
  have n8_1 : w3.heap.size < w8.heap.size := by omega
  have n8_2 : w5.heap.size < w8.heap.size := by omega
  replace x0_0 := cell_below hb x0_0 (by omega)
  replace x0_1 := cell_below hb x0_1 (by omega)
  replace yv_0 := cell_below hb yv_0 (by omega)
  replace yv_1 := cell_below hb yv_1 (by omega)
  replace p0_0 := cell_below hb p0_0 (by omega)
  replace p0_1 := cell_below hb p0_1 (by omega)
  have HB8 := Lib.hid (HB7.out.trans (hb.mono (by omega)))
  replace Ov := Lib.hid (Ov.out.below hb)
  replace Ox0 := Lib.hid (Ox0.out.below hb)
  replace Og := Lib.hid (Og.out.below hb)
  clear hb
  refine (planefns.eq_same _ _ r0 _ _ rb0 _ Og.out.reads Ov.out.reads (by omega)).mono ?_
  rintro e w9 ⟨rfl, hb⟩
  have s9 : w8.heap.size ≤ w9.heap.size := hb.size
  have n9_0 : w.heap.size < w9.heap.size := by omega
  have n9_1 : w3.heap.size < w9.heap.size := by omega
  have n9_2 : w5.heap.size < w9.heap.size := by omega
  have n9_3 : w7.heap.size < w9.heap.size := by omega
  replace x0_0 := cell_below hb x0_0 (by omega)
  replace x0_1 := cell_below hb x0_1 (by omega)
  replace yv_0 := cell_below hb yv_0 (by omega)
  replace yv_1 := cell_below hb yv_1 (by omega)
  replace p0_0 := cell_below hb p0_0 (by omega)
  replace p0_1 := cell_below hb p0_1 (by omega)
  replace yg_0 := cell_below hb yg_0 (by omega)
  replace yg_1 := cell_below hb yg_1 (by omega)
  have HB9 := Lib.hid (HB8.out.trans (hb.mono (by omega)))
  replace Ov := Lib.hid (Ov.out.below hb)
  replace Ox0 := Lib.hid (Ox0.out.below hb)
  replace Og := Lib.hid (Og.out.below hb)
  clear hb
  go_wp2_with fail
  have HT1 := Lib.hid (show ∀ wa : World, (wa.cell? ⟨w.heap.size, 0, none⟩ = some (.int .i64 t0) ∧ wa.cell? ⟨w.heap.size, 1, none⟩ = some (.slice a0 ls0.length c0) ∧ wa.cell? ⟨w3.heap.size, 0, none⟩ = some (.slice va r0.length vc) ∧ wa.cell? ⟨w3.heap.size, 1, none⟩ = some (.int .i64 rb0) ∧ wa.cell? ⟨w5.heap.size, 0, none⟩ = some (.int .i64 t0) ∧ wa.cell? ⟨w5.heap.size, 1, none⟩ = some (.slice x0a ls0.length x0c) ∧ wa.cell? ⟨w7.heap.size, 0, none⟩ = some (.slice ga r0.length gc) ∧ wa.cell? ⟨w7.heap.size, 1, none⟩ = some (.int .i64 rb0) ∧ Below w9.heap.size w9 wa) → Calls Try.prog 25 #[.agg #[.int .i64 t0, .slice a0 ls0.length c0]] wa fun e w' => ∃ p q, e = .returned (.agg #[.int .i64 t0, .slice p ls0.length q]) ∧ ReadsL w' p ls0 ∧ (w'.cell? ⟨w.heap.size, 0, none⟩ = some (.int .i64 t0) ∧ w'.cell? ⟨w.heap.size, 1, none⟩ = some (.slice a0 ls0.length c0) ∧ w'.cell? ⟨w3.heap.size, 0, none⟩ = some (.slice va r0.length vc) ∧ w'.cell? ⟨w3.heap.size, 1, none⟩ = some (.int .i64 rb0) ∧ w'.cell? ⟨w5.heap.size, 0, none⟩ = some (.int .i64 t0) ∧ w'.cell? ⟨w5.heap.size, 1, none⟩ = some (.slice x0a ls0.length x0c) ∧ w'.cell? ⟨w7.heap.size, 0, none⟩ = some (.slice ga r0.length gc) ∧ w'.cell? ⟨w7.heap.size, 1, none⟩ = some (.int .i64 rb0) ∧ Below w9.heap.size w9 w') from fun wa hS => by
    have hz := hS.2.2.2.2.2.2.2.2.size
    refine (netfns.to_any a0 ls0 c0 t0 _ (HR0.out.below (HB9.out.trans (hS.2.2.2.2.2.2.2.2.mono (by omega)))) (by omega)).mono ?_
    rintro e w' ⟨v, rfl, ho, hb⟩
    obtain ⟨p, q, rfl, _, _, _⟩ := ho.slice
    exact ⟨p, q, rfl, ho.reads, cell_below hb hS.1 (by omega), cell_below hb hS.2.1 (by omega), cell_below hb hS.2.2.1 (by omega), cell_below hb hS.2.2.2.1 (by omega), cell_below hb hS.2.2.2.2.1 (by omega), cell_below hb hS.2.2.2.2.2.1 (by omega), cell_below hb hS.2.2.2.2.2.2.1 (by omega), cell_below hb hS.2.2.2.2.2.2.2.1 (by omega), hS.2.2.2.2.2.2.2.2.trans (hb.mono (by omega))⟩)
  have HT2 := Lib.hid (show ∀ (wa : World) (p : Option Addr) (q : Nat), (wa.cell? ⟨w.heap.size, 0, none⟩ = some (.int .i64 t0) ∧ wa.cell? ⟨w.heap.size, 1, none⟩ = some (.slice a0 ls0.length c0) ∧ wa.cell? ⟨w3.heap.size, 0, none⟩ = some (.slice va r0.length vc) ∧ wa.cell? ⟨w3.heap.size, 1, none⟩ = some (.int .i64 rb0) ∧ wa.cell? ⟨w5.heap.size, 0, none⟩ = some (.int .i64 t0) ∧ wa.cell? ⟨w5.heap.size, 1, none⟩ = some (.slice x0a ls0.length x0c) ∧ wa.cell? ⟨w7.heap.size, 0, none⟩ = some (.slice ga r0.length gc) ∧ wa.cell? ⟨w7.heap.size, 1, none⟩ = some (.int .i64 rb0) ∧ Below w9.heap.size w9 wa) → ReadsL wa p ls0 → Calls Try.prog 20 #[.agg #[.int .i64 t0, .slice x0a ls0.length x0c], .agg #[.int .i64 t0, .slice p ls0.length q]] wa fun e w' => e = .returned (.bool true) ∧ (w'.cell? ⟨w.heap.size, 0, none⟩ = some (.int .i64 t0) ∧ w'.cell? ⟨w.heap.size, 1, none⟩ = some (.slice a0 ls0.length c0) ∧ w'.cell? ⟨w3.heap.size, 0, none⟩ = some (.slice va r0.length vc) ∧ w'.cell? ⟨w3.heap.size, 1, none⟩ = some (.int .i64 rb0) ∧ w'.cell? ⟨w5.heap.size, 0, none⟩ = some (.int .i64 t0) ∧ w'.cell? ⟨w5.heap.size, 1, none⟩ = some (.slice x0a ls0.length x0c) ∧ w'.cell? ⟨w7.heap.size, 0, none⟩ = some (.slice ga r0.length gc) ∧ w'.cell? ⟨w7.heap.size, 1, none⟩ = some (.int .i64 rb0) ∧ Below w9.heap.size w9 w') from fun wa p q hS k1 => by
    have hz := hS.2.2.2.2.2.2.2.2.size
    have ho := Ox0.out.below hS.2.2.2.2.2.2.2.2
    refine (netfns.eq_same _ _ ls0 _ _ t0 _ ho.reads k1 (by omega) (fun s hs => by have h9 := len_le_totL ls0 s hs; refine ⟨by omega, fun y hy => ?_⟩; have := planesfns.len_le_totJ s y hy; omega)).mono ?_
    rintro e w' ⟨rfl, hb⟩
    exact ⟨rfl, cell_below hb hS.1 (by omega), cell_below hb hS.2.1 (by omega), cell_below hb hS.2.2.1 (by omega), cell_below hb hS.2.2.2.1 (by omega), cell_below hb hS.2.2.2.2.1 (by omega), cell_below hb hS.2.2.2.2.2.1 (by omega), cell_below hb hS.2.2.2.2.2.2.1 (by omega), cell_below hb hS.2.2.2.2.2.2.2.1 (by omega), hS.2.2.2.2.2.2.2.2.trans (hb.mono (by omega))⟩)
  go_region_held3 (fun w' => w'.cell? ⟨w.heap.size, 0, none⟩ = some (.int .i64 t0) ∧ w'.cell? ⟨w.heap.size, 1, none⟩ = some (.slice a0 ls0.length c0) ∧ w'.cell? ⟨w3.heap.size, 0, none⟩ = some (.slice va r0.length vc) ∧ w'.cell? ⟨w3.heap.size, 1, none⟩ = some (.int .i64 rb0) ∧ w'.cell? ⟨w5.heap.size, 0, none⟩ = some (.int .i64 t0) ∧ w'.cell? ⟨w5.heap.size, 1, none⟩ = some (.slice x0a ls0.length x0c) ∧ w'.cell? ⟨w7.heap.size, 0, none⟩ = some (.slice ga r0.length gc) ∧ w'.cell? ⟨w7.heap.size, 1, none⟩ = some (.int .i64 rb0) ∧ Below w9.heap.size w9 w') (first | assumption | exact ⟨x0_0, x0_1, yv_0, yv_1, p0_0, p0_1, yg_0, yg_1, Below.refl _ _⟩ | exact ⟨x0_0, x0_1, yv_0, yv_1, p0_0, p0_1, yg_0, yg_1, (Below.refl _ _).drew⟩) (first | (go_at_call 25; refine Calls.mono (HT1.out _ ?_) ?_; assumption; rintro e w' ⟨p, q, rfl, k1, hbx⟩) | (go_at_call 20; refine Calls.mono (HT2.out _ _ _ ?_ ?_) ?_; assumption; assumption; rintro e w10 ⟨rfl, hbx⟩))
  obtain ⟨_, _, _, _, _, _, _, _, hb⟩ := hbx
  have s10 : w9.heap.size ≤ w10.heap.size := hb.size
  have n10_0 : w.heap.size < w10.heap.size := by omega
  have n10_1 : w3.heap.size < w10.heap.size := by omega
  have n10_2 : w5.heap.size < w10.heap.size := by omega
  have n10_3 : w7.heap.size < w10.heap.size := by omega
  replace x0_0 := cell_below hb x0_0 (by omega)
  replace x0_1 := cell_below hb x0_1 (by omega)
  replace yv_0 := cell_below hb yv_0 (by omega)
  replace yv_1 := cell_below hb yv_1 (by omega)
  replace p0_0 := cell_below hb p0_0 (by omega)
  replace p0_1 := cell_below hb p0_1 (by omega)
  replace yg_0 := cell_below hb yg_0 (by omega)
  replace yg_1 := cell_below hb yg_1 (by omega)
  have HB10 := Lib.hid (HB9.out.trans (hb.mono (by omega)))
  replace Ov := Lib.hid (Ov.out.below hb)
  replace Ox0 := Lib.hid (Ox0.out.below hb)
  replace Og := Lib.hid (Og.out.below hb)
  clear hb
  clear HT1 HT2
  go_wp2_with fail
  refine (netfns.mark_any (w4.heap.size) (w5.heap.size) _ _ ls0 t0 (1) _ Ox0.out (by omega) (by omega)).mono ?_
  rintro e w11 ⟨rfl, ho, hb⟩
  have s11 : w10.heap.size ≤ w11.heap.size := hb.size
  have n11_0 : w.heap.size < w11.heap.size := by omega
  have n11_1 : w3.heap.size < w11.heap.size := by omega
  have n11_2 : w5.heap.size < w11.heap.size := by omega
  have n11_3 : w7.heap.size < w11.heap.size := by omega
  replace x0_0 := hb.cell x0_0 (by omega) (by omega)
  replace x0_1 := hb.cell x0_1 (by omega) (by omega)
  replace yv_0 := hb.cell yv_0 (by omega) (by omega)
  replace yv_1 := hb.cell yv_1 (by omega) (by omega)
  replace p0_0 := hb.cell p0_0 (by omega) (by omega)
  replace p0_1 := hb.cell p0_1 (by omega) (by omega)
  replace yg_0 := hb.cell yg_0 (by omega) (by omega)
  replace yg_1 := hb.cell yg_1 (by omega) (by omega)
  have HB11 := Lib.hid (HB10.out.trans ((hb.below (by omega)).mono (by omega)))
  replace Ov := Lib.hid (Ov.out.only hb (by omega))
  replace Og := Lib.hid (Og.out.only hb (by omega))
  clear hb
  replace Ox0 := Lib.hid ho
  clear ho
  go_wp2_with fail
  refine (planefns.eq_same _ _ r0 _ _ rb0 _ Og.out.reads Ov.out.reads (by omega)).mono ?_
  rintro e w12 ⟨rfl, hb⟩
  have s12 : w11.heap.size ≤ w12.heap.size := hb.size
  have n12_0 : w.heap.size < w12.heap.size := by omega
  have n12_1 : w3.heap.size < w12.heap.size := by omega
  have n12_2 : w5.heap.size < w12.heap.size := by omega
  have n12_3 : w7.heap.size < w12.heap.size := by omega
  replace x0_0 := cell_below hb x0_0 (by omega)
  replace x0_1 := cell_below hb x0_1 (by omega)
  replace yv_0 := cell_below hb yv_0 (by omega)
  replace yv_1 := cell_below hb yv_1 (by omega)
  replace p0_0 := cell_below hb p0_0 (by omega)
  replace p0_1 := cell_below hb p0_1 (by omega)
  replace yg_0 := cell_below hb yg_0 (by omega)
  replace yg_1 := cell_below hb yg_1 (by omega)
  have HB12 := Lib.hid (HB11.out.trans (hb.mono (by omega)))
  replace Ov := Lib.hid (Ov.out.below hb)
  replace Ox0 := Lib.hid (Ox0.out.below hb)
  replace Og := Lib.hid (Og.out.below hb)
  clear hb
  go_wp2_with fail
  clear Ox0
  refine (planefns.mark_any (w6.heap.size) (w7.heap.size) _ _ r0 rb0 (1) _ Og.out (by omega)).mono ?_
  rintro e w13 ⟨rfl, ho, hb⟩
  have s13 : w12.heap.size ≤ w13.heap.size := hb.size
  have n13_0 : w.heap.size < w13.heap.size := by omega
  have n13_1 : w3.heap.size < w13.heap.size := by omega
  have n13_2 : w5.heap.size < w13.heap.size := by omega
  have n13_3 : w7.heap.size < w13.heap.size := by omega
  replace x0_0 := hb.cell x0_0 (by omega) (by omega)
  replace x0_1 := hb.cell x0_1 (by omega) (by omega)
  replace yv_0 := hb.cell yv_0 (by omega) (by omega)
  replace yv_1 := hb.cell yv_1 (by omega) (by omega)
  replace p0_0 := hb.cell p0_0 (by omega) (by omega)
  replace p0_1 := hb.cell p0_1 (by omega) (by omega)
  replace yg_0 := hb.cell yg_0 (by omega) (by omega)
  replace yg_1 := hb.cell yg_1 (by omega) (by omega)
  have HB13 := Lib.hid (HB12.out.trans ((hb.below (by omega)).mono (by omega)))
  replace Ov := Lib.hid (Ov.out.only hb (by omega))
  clear hb
  replace Og := Lib.hid ho
  clear ho
  go_wp2_with fail
  refine (planefns.held_any _ _ r0.length (1) _ _ Og.out.reads (by omega)).mono ?_
  rintro e w14 ⟨rfl, hb⟩
  have s14 : w13.heap.size ≤ w14.heap.size := hb.size
  have n14_0 : w.heap.size < w14.heap.size := by omega
  have n14_1 : w3.heap.size < w14.heap.size := by omega
  have n14_2 : w5.heap.size < w14.heap.size := by omega
  have n14_3 : w7.heap.size < w14.heap.size := by omega
  replace x0_0 := cell_below hb x0_0 (by omega)
  replace x0_1 := cell_below hb x0_1 (by omega)
  replace yv_0 := cell_below hb yv_0 (by omega)
  replace yv_1 := cell_below hb yv_1 (by omega)
  replace p0_0 := cell_below hb p0_0 (by omega)
  replace p0_1 := cell_below hb p0_1 (by omega)
  replace yg_0 := cell_below hb yg_0 (by omega)
  replace yg_1 := cell_below hb yg_1 (by omega)
  have HB14 := Lib.hid (HB13.out.trans (hb.mono (by omega)))
  replace Ov := Lib.hid (Ov.out.below hb)
  replace Og := Lib.hid (Og.out.below hb)
  clear hb
  go_wp2_with fail
  refine (netfns.to_any a0 ls0 c0 t0 _ (HR0.out.below HB14.out) (by omega)).mono ?_
  rintro e w15 ⟨v, rfl, ho, hb⟩
  obtain ⟨h0a, h0c, rfl, _, _, _⟩ := ho.slice
  have s15 : w14.heap.size ≤ w15.heap.size := hb.size
  have n15_0 : w.heap.size < w15.heap.size := by omega
  have n15_1 : w3.heap.size < w15.heap.size := by omega
  have n15_2 : w5.heap.size < w15.heap.size := by omega
  have n15_3 : w7.heap.size < w15.heap.size := by omega
  replace x0_0 := cell_below hb x0_0 (by omega)
  replace x0_1 := cell_below hb x0_1 (by omega)
  replace yv_0 := cell_below hb yv_0 (by omega)
  replace yv_1 := cell_below hb yv_1 (by omega)
  replace p0_0 := cell_below hb p0_0 (by omega)
  replace p0_1 := cell_below hb p0_1 (by omega)
  replace yg_0 := cell_below hb yg_0 (by omega)
  replace yg_1 := cell_below hb yg_1 (by omega)
  have HB15 := Lib.hid (HB14.out.trans (hb.mono (by omega)))
  replace Ov := Lib.hid (Ov.out.below hb)
  replace Og := Lib.hid (Og.out.below hb)
  clear hb
  have Oh0 := Lib.hid ho
  clear ho
  go_wp2_with fail
  refine (HImpl.out _ _ _ Oh0.out.reads).mono ?_
  rintro e w16 ⟨v, rfl, ho, hb⟩
  obtain ⟨ha, hc, rfl, _, _, _⟩ := ho.slice
  have s16 : w15.heap.size ≤ w16.heap.size := hb.size
  have n16_0 : w.heap.size < w16.heap.size := by omega
  have n16_1 : w3.heap.size < w16.heap.size := by omega
  have n16_2 : w5.heap.size < w16.heap.size := by omega
  have n16_3 : w7.heap.size < w16.heap.size := by omega
  replace x0_0 := cell_below hb x0_0 (by omega)
  replace x0_1 := cell_below hb x0_1 (by omega)
  replace yv_0 := cell_below hb yv_0 (by omega)
  replace yv_1 := cell_below hb yv_1 (by omega)
  replace p0_0 := cell_below hb p0_0 (by omega)
  replace p0_1 := cell_below hb p0_1 (by omega)
  replace yg_0 := cell_below hb yg_0 (by omega)
  replace yg_1 := cell_below hb yg_1 (by omega)
  have HB16 := Lib.hid (HB15.out.trans (hb.mono (by omega)))
  replace Ov := Lib.hid (Ov.out.below hb)
  replace Og := Lib.hid (Og.out.below hb)
  replace Oh0 := Lib.hid (Oh0.out.below hb)
  clear hb
  have Oh := Lib.hid ho
  clear ho
  clear Oh0
  go_wp2_with fail
  have yh_0 : (w16.alloc (.cells #[.slice ha r0.length hc, .int .i64 rb0] 46)).cell? ⟨w16.heap.size, 0, none⟩ = some (.slice ha r0.length hc) := cell_new _ _ _ rfl rfl
  have yh_1 : (w16.alloc (.cells #[.slice ha r0.length hc, .int .i64 rb0] 46)).cell? ⟨w16.heap.size, 1, none⟩ = some (.int .i64 rb0) := cell_new _ _ _ rfl rfl
  have hb := below_alloc w16 (.cells #[.slice ha r0.length hc, .int .i64 rb0] 46)
  have z17 := size_alloc' w16 (.cells #[.slice ha r0.length hc, .int .i64 rb0] 46)
  generalize hw : w16.alloc (.cells #[.slice ha r0.length hc, .int .i64 rb0] 46) = w17 at *
  clear hw
  have s17 : w16.heap.size ≤ w17.heap.size := hb.size
  have n17_0 : w.heap.size < w17.heap.size := by omega
  have n17_1 : w3.heap.size < w17.heap.size := by omega
  have n17_2 : w5.heap.size < w17.heap.size := by omega
  have n17_3 : w7.heap.size < w17.heap.size := by omega
  replace x0_0 := cell_below hb x0_0 (by omega)
  replace x0_1 := cell_below hb x0_1 (by omega)
  replace yv_0 := cell_below hb yv_0 (by omega)
  replace yv_1 := cell_below hb yv_1 (by omega)
  replace p0_0 := cell_below hb p0_0 (by omega)
  replace p0_1 := cell_below hb p0_1 (by omega)
  replace yg_0 := cell_below hb yg_0 (by omega)
  replace yg_1 := cell_below hb yg_1 (by omega)
  have HB17 := Lib.hid (HB16.out.trans (hb.mono (by omega)))
  replace Ov := Lib.hid (Ov.out.below hb)
  replace Og := Lib.hid (Og.out.below hb)
  replace Oh := Lib.hid (Oh.out.below hb)
  clear hb
  refine (planefns.eq_same _ _ r0 _ _ rb0 _ Oh.out.reads Ov.out.reads (by omega)).mono ?_
  rintro e w18 ⟨rfl, hb⟩
  have s18 : w17.heap.size ≤ w18.heap.size := hb.size
  have n18_0 : w.heap.size < w18.heap.size := by omega
  have n18_1 : w3.heap.size < w18.heap.size := by omega
  have n18_2 : w5.heap.size < w18.heap.size := by omega
  have n18_3 : w7.heap.size < w18.heap.size := by omega
  have n18_4 : w16.heap.size < w18.heap.size := by omega
  replace x0_0 := cell_below hb x0_0 (by omega)
  replace x0_1 := cell_below hb x0_1 (by omega)
  replace yv_0 := cell_below hb yv_0 (by omega)
  replace yv_1 := cell_below hb yv_1 (by omega)
  replace p0_0 := cell_below hb p0_0 (by omega)
  replace p0_1 := cell_below hb p0_1 (by omega)
  replace yg_0 := cell_below hb yg_0 (by omega)
  replace yg_1 := cell_below hb yg_1 (by omega)
  replace yh_0 := cell_below hb yh_0 (by omega)
  replace yh_1 := cell_below hb yh_1 (by omega)
  have HB18 := Lib.hid (HB17.out.trans (hb.mono (by omega)))
  replace Ov := Lib.hid (Ov.out.below hb)
  replace Og := Lib.hid (Og.out.below hb)
  replace Oh := Lib.hid (Oh.out.below hb)
  clear hb
  go_wp2_with fail
  refine (planefns.held_any _ _ r0.length (1) _ _ Og.out.reads (by omega)).mono ?_
  rintro e w19 ⟨rfl, hb⟩
  have s19 : w18.heap.size ≤ w19.heap.size := hb.size
  have n19_0 : w.heap.size < w19.heap.size := by omega
  have n19_1 : w3.heap.size < w19.heap.size := by omega
  have n19_2 : w5.heap.size < w19.heap.size := by omega
  have n19_3 : w7.heap.size < w19.heap.size := by omega
  have n19_4 : w16.heap.size < w19.heap.size := by omega
  replace x0_0 := cell_below hb x0_0 (by omega)
  replace x0_1 := cell_below hb x0_1 (by omega)
  replace yv_0 := cell_below hb yv_0 (by omega)
  replace yv_1 := cell_below hb yv_1 (by omega)
  replace p0_0 := cell_below hb p0_0 (by omega)
  replace p0_1 := cell_below hb p0_1 (by omega)
  replace yg_0 := cell_below hb yg_0 (by omega)
  replace yg_1 := cell_below hb yg_1 (by omega)
  replace yh_0 := cell_below hb yh_0 (by omega)
  replace yh_1 := cell_below hb yh_1 (by omega)
  have HB19 := Lib.hid (HB18.out.trans (hb.mono (by omega)))
  replace Ov := Lib.hid (Ov.out.below hb)
  replace Og := Lib.hid (Og.out.below hb)
  replace Oh := Lib.hid (Oh.out.below hb)
  clear hb
  go_wp2_with fail
  go_ret
  exact ⟨rfl, HB19.out⟩
end Go.Proofs.Ytoephhhofkmgjab.fnExactSinglePlanew

namespace Go.Proofs.Ytoephhhofkmgjab.netp
open Go.RowKit own pp
set_option linter.unusedVariables false

/-- How many numbers a layer is given. -/
def giv (n : Nat) (ls : List (List (List Int × Int))) (i : Nat) : Nat := if i = 0 then n else (ls.getD (i - 1) []).length
theorem giv_zero (n : Nat) (ls : List (List (List Int × Int))) : giv n ls 0 = n := rfl
theorem giv_succ (n : Nat) (ls : List (List (List Int × Int))) (i : Nat) : giv n ls (i + 1) = (ls.getD i []).length := rfl
def gateB (g : Nat) (p : List Int × Int) : Bool := planeB p.1 p.2 && decide (p.1.length = g)
def layB (g : Nat) (l : List (List Int × Int)) : Bool := decide (1 ≤ l.length) && decide (l.length ≤ 4) && (List.range l.length).all fun k => gateB g (l.getD k ([], 0))
def netB (n : Int) (ls : List (List (List Int × Int))) : Bool := decide (1 ≤ n) && decide (n ≤ 4) && decide (1 ≤ ls.length) && decide (ls.length ≤ 6) && (List.range ls.length).all fun i => layB (giv n.toNat ls i) (ls.getD i [])
theorem gateB_iff (g : Nat) (p : List Int × Int) : gateB g p = true ↔ planeB p.1 p.2 = true ∧ p.1.length = g := by simp [gateB]
theorem layB_iff (g : Nat) (l : List (List Int × Int)) : layB g l = true ↔ 1 ≤ l.length ∧ l.length ≤ 4 ∧ ∀ k, k < l.length → gateB g (l.getD k ([], 0)) = true := by simp [layB, and_assoc]
theorem netB_iff (n : Int) (ls : List (List (List Int × Int))) : netB n ls = true ↔ 1 ≤ n ∧ n ≤ 4 ∧ 1 ≤ ls.length ∧ ls.length ≤ 6 ∧ ∀ i, i < ls.length → layB (giv n.toNat ls i) (ls.getD i []) = true := by simp [netB, and_assoc]
theorem lay_no {g : Nat} {l : List (List Int × Int)} (k : Nat) (hk : k < l.length) (h : gateB g (l.getD k ([], 0)) = false) : layB g l = false := by
  cases e : layB g l
  · rfl
  · have := ((layB_iff _ _).1 e).2.2 k hk
    rw [h] at this; cases this
theorem net_no {n : Int} {ls : List (List (List Int × Int))} (i : Nat) (hi : i < ls.length) (h : layB (giv n.toNat ls i) (ls.getD i []) = false) : netB n ls = false := by
  cases e : netB n ls
  · rfl
  · have := ((netB_iff _ _).1 e).2.2.2.2 i hi
    rw [h] at this; cases this
theorem net_len {n : Int} {ls : List (List (List Int × Int))} (h : netB n ls = true) : 1 ≤ ls.length ∧ ls.length ≤ 6 := ⟨((netB_iff _ _).1 h).2.2.1, ((netB_iff _ _).1 h).2.2.2.1⟩
theorem net_lay {n : Int} {ls : List (List (List Int × Int))} (h : netB n ls = true) (i : Nat) (hi : i < ls.length) : 1 ≤ (ls.getD i []).length ∧ (ls.getD i []).length ≤ 4 :=
  ⟨((layB_iff _ _).1 (((netB_iff _ _).1 h).2.2.2.2 i hi)).1, ((layB_iff _ _).1 (((netB_iff _ _).1 h).2.2.2.2 i hi)).2.1⟩
theorem net_gate {n : Int} {ls : List (List (List Int × Int))} (h : netB n ls = true) (i : Nat) (hi : i < ls.length) (k : Nat) (hk : k < (ls.getD i []).length) : gateB (giv n.toNat ls i) ((ls.getD i []).getD k ([], 0)) = true :=
  ((layB_iff _ _).1 (((netB_iff _ _).1 h).2.2.2.2 i hi)).2.2 k hk
theorem net_giv {n : Int} {ls : List (List (List Int × Int))} (h : netB n ls = true) (i : Nat) (hi : i ≤ ls.length) : 1 ≤ giv n.toNat ls i ∧ giv n.toNat ls i ≤ 4 := by
  have h1 := (netB_iff _ _).1 h
  cases i with
  | zero => rw [giv_zero]; omega
  | succ i => rw [giv_succ]; exact net_lay h i (by omega)
theorem net_fit {n : Int} {ls : List (List (List Int × Int))} (h : netB n ls = true) (i : Nat) (hi : i < ls.length) (k : Nat) (hk : k < (ls.getD i []).length) :
    planeB ((ls.getD i []).getD k ([], 0)).1 ((ls.getD i []).getD k ([], 0)).2 = true ∧ ((ls.getD i []).getD k ([], 0)).1.length = giv n.toNat ls i := (gateB_iff _ _).1 (net_gate h i hi k hk)
end Go.Proofs.Ytoephhhofkmgjab.netp

namespace Go.Proofs.Ytoephhhofkmgjab.samplefns
open Go.RowKit own
set_option linter.unusedVariables false

theorem sz_yes (a : Option Addr) (rows : List (List Int)) (c : Nat) (a' : Option Addr) (n c' : Nat) (left : Int) (w : World) (hr : grid.Reads w a rows)
    (h0 : (rows.length : Int) + (grid.tot rows : Int) + (n : Int) ≤ left) (h1 : left ≤ 1048576) :
    Calls Try.prog 30 #[.agg #[.slice a rows.length c, .slice a' n c'], .int .i64 left] w fun e w' => e = .returned (.int .i64 (left - rows.length - grid.tot rows - n)) ∧ Below w.heap.size w w' := by
  have hB := ((Below.refl w.heap.size w).alloc (Nat.le_refl _) (.cells #[.slice a rows.length c, .slice a' n c'] 54))
  have hr1 := hr.below hB
  have HB := Lib.hid hB
  clear hB
  go_enter Try.func30, Try.ntmps30
  go_wp2_with fail
  refine (gridfns.sz_yes _ _ _ _ _ hr1 (by omega) (by omega)).mono ?_
  rintro e w' ⟨rfl, rfl⟩
  go_wp2_with fail
  refine (intfns.sz_yes _ _ _ _ _ (by omega) (by omega)).mono ?_
  rintro e w' ⟨rfl, rfl⟩
  go_wp2_with fail
  go_ret
  exact ⟨rfl, HB.out⟩

theorem sz_no (a : Option Addr) (rows : List (List Int)) (c : Nat) (a' : Option Addr) (n c' : Nat) (left : Int) (w : World) (hr : grid.Reads w a rows) (hl : rows.length ≤ 9223372036854775807) (hs : ∀ s ∈ rows, s.length ≤ 9223372036854775807) (hn : n ≤ 9223372036854775807)
    (h0 : left < (rows.length : Int) + (grid.tot rows : Int) + (n : Int)) (h1 : left ≤ 1048576) (h2 : 0 ≤ left) :
    Calls Try.prog 30 #[.agg #[.slice a rows.length c, .slice a' n c'], .int .i64 left] w fun e w' => e = .returned (.int .i64 (-1)) ∧ Below w.heap.size w w' := by
  have hB := ((Below.refl w.heap.size w).alloc (Nat.le_refl _) (.cells #[.slice a rows.length c, .slice a' n c'] 54))
  have hr1 := hr.below hB
  have HB := Lib.hid hB
  have HS := Lib.hid hs
  clear hB hs
  by_cases hg : left < (rows.length : Int) + (grid.tot rows : Int)
  · go_enter Try.func30, Try.ntmps30
    go_wp2_with fail
    refine (gridfns.sz_no _ _ _ _ _ hr1 hl HS.out hg h1 h2).mono ?_
    rintro e w' ⟨rfl, rfl⟩
    go_wp2_with fail
    go_ret
    exact ⟨rfl, HB.out⟩
  · go_enter Try.func30, Try.ntmps30
    go_wp2_with fail
    refine (gridfns.sz_yes _ _ _ _ _ hr1 (by omega) (by omega)).mono ?_
    rintro e w' ⟨rfl, rfl⟩
    go_wp2_with fail
    refine (intfns.sz_no _ _ _ _ _ (by omega) (by omega) (by omega) hn).mono ?_
    rintro e w' ⟨rfl, rfl⟩
    go_wp2_with fail
    go_ret
    exact ⟨rfl, HB.out⟩

/-- What a copy is. -/
def MadeS (rows : List (List Int)) (zs : List Int) (w : World) (e : Ending) (w' : World) : Prop :=
  ∃ p l, e = .returned (.agg #[p, l]) ∧ OwnS w.heap.size w'.heap.size w' p l rows zs ∧ Below w.heap.size w w'

set_option maxHeartbeats 400000 in
theorem to_any (a : Option Addr) (rows : List (List Int)) (c : Nat) (a' : Option Addr) (zs : List Int) (c' : Nat) (w : World) (hr : grid.Reads w a rows) (hr' : ints.Reads .i64 w a' zs) (hn : (rows.length : Int) + (grid.tot rows : Int) ≤ 1048576) (hz : zs.length ≤ 1048576) :
    Calls Try.prog 32 #[.agg #[.slice a rows.length c, .slice a' zs.length c']] w (MadeS rows zs w) := by
  have hB : Below w.heap.size w (((w.alloc (.cells #[.slice a rows.length c, .slice a' zs.length c'] 54)).alloc (.cells #[.slice none 0 0, .slice none 0 0] 56)).alloc (.cells #[.slice none 0 0, .slice none 0 0] 56)) :=
    (((Below.refl _ _).alloc (Nat.le_refl _) _).alloc (by simp) _).alloc (by simp; omega) _
  have hr1 := hr.below hB
  have HB := Lib.hid hB
  clear hB hr
  go_enter Try.func32, Try.ntmps32
  go_wp2_with fail
  refine (gridfns.to_any a rows c _ hr1 hn).mono ?_
  rintro e w1 ⟨v, rfl, ho, hb⟩
  obtain ⟨p, q, rfl, _, _, _⟩ := ho.slice
  obtain ⟨hc, hf⟩ := bcell hb
  have hs : w.heap.size + 1 + 1 < w1.heap.size := by have := hb.size; simp at this; omega
  have hs' : w.heap.size + 1 < w1.heap.size := by omega
  have hs'' : w.heap.size < w1.heap.size := by omega
  have HB1 := Lib.hid hb
  have HO := Lib.hid (ho.mono (lo' := w.heap.size + 3) (by simp) (Nat.le_refl _))
  clear ho hr1
  have hb2 := (HB.out.trans (hb.mono (by simp; omega))).setCell (p := ⟨w.heap.size + 1 + 1, 0, none⟩) (by simp; omega) (.slice p rows.length q)
  have hr3 := hr'.below hb2
  have HB2 := Lib.hid hb2
  clear hb hb2
  go_wp2_with fail
  refine (intfns.to_any a' zs c' _ hr3 hz).mono ?_
  rintro e w2 ⟨v, rfl, ho2, hb⟩
  obtain ⟨p2, q2, rfl, _, _, _⟩ := ho2.slice
  obtain ⟨hc2, hf2⟩ := bcell hb
  have hs2 : w1.heap.size ≤ w2.heap.size := by have := hb.size; simp [World.setCell] at this; omega
  have HB3 := Lib.hid (HB2.out.trans (hb.mono (by simp [World.setCell]; omega)))
  have HO1 := Lib.hid ((HO.out.block' (w' := w1.setCell ⟨w.heap.size + 1 + 1, 0, none⟩ (.slice p rows.length q)) (fun g h1 _ => Below.heap_setCell _ _ _ _ (by simp; omega)) (by simp [World.setCell])).below hb)
  have HO2 := Lib.hid ho2
  clear hb ho2 hr3
  go_wp2_with fail
  refine bodyPost_ret (v := .agg #[.slice p rows.length q, .slice p2 zs.length q2]) (by simp [results, Try.results32, go_sem, hc, hc2, hs']) rfl ⟨_, _, rfl, ?_, ?_⟩
  · simp only [size_set]
    refine OwnS.of (l1 := w.heap.size + 3) (h1 := w1.heap.size) (l2 := w1.heap.size) (h2 := w2.heap.size) ?_ ?_ (.inl (Nat.le_refl _)) (by omega) (by omega) (by omega) (Nat.le_refl _)
    · exact ((HO1.out.set (by simp) _).set (by simp) _).set (by simp) _
    · exact (((HO2.out.mono (lo' := w1.heap.size) (by simp [World.setCell]) (Nat.le_refl _)).set (by omega) _).set (by omega) _).set (by omega) _
  · exact ((HB3.out.setCell (by simp; omega) _).setCell (by simp) _).setCell (by simp) _
set_option maxHeartbeats 400000 in
theorem eq_same (a a' : Option Addr) (rows : List (List Int)) (c c' : Nat) (b b' : Option Addr) (zs : List Int) (d d' : Nat) (w : World) (hr : grid.Reads w a rows) (hr' : grid.Reads w a' rows) (hq : ints.Reads .i64 w b zs) (hq' : ints.Reads .i64 w b' zs)
    (hn : rows.length ≤ 9223372036854775807) (hm : ∀ s ∈ rows, s.length ≤ 9223372036854775807) (hz : zs.length ≤ 9223372036854775807) :
    Calls Try.prog 34 #[.agg #[.slice a rows.length c, .slice b zs.length d], .agg #[.slice a' rows.length c', .slice b' zs.length d']] w fun e w' => e = .returned (.bool true) ∧ Below w.heap.size w w' := by
  have hB := (((Below.refl w.heap.size w).alloc (Nat.le_refl _) (.cells #[.slice a rows.length c, .slice b zs.length d] 56)).alloc (by simp) (.cells #[.slice a' rows.length c', .slice b' zs.length d'] 56))
  have hr1 := hr.below hB
  have hr1' := hr'.below hB
  have hq1 := hq.below hB
  have hq1' := hq'.below hB
  have HB := Lib.hid hB
  have HM := Lib.hid hm
  clear hB hr hr' hq hq' hm
  go_enter Try.func34, Try.ntmps34
  go_wp2_with fail
  refine (gridfns.eq_same _ _ rows _ _ _ hr1 hr1' hn HM.out).mono ?_
  rintro e w1 ⟨rfl, hb⟩
  obtain ⟨hc, hf⟩ := bcell hb
  have hs : w.heap.size + 1 + 1 ≤ w1.heap.size := by have := hb.size; simp at this; omega
  have hq2 := hq1.below hb
  have hq2' := hq1'.below hb
  have HB1 := Lib.hid (HB.out.trans (hb.mono (by simp; omega)))
  clear hb hr1 hr1' hq1 hq1'
  go_wp2_with fail
  refine (intfns.eq_same _ _ zs _ _ _ hq2 hq2' hz).mono ?_
  rintro e w2 ⟨rfl, hb⟩
  have HB2 := Lib.hid (HB1.out.trans (hb.mono (by omega)))
  clear hb hq2 hq2'
  go_wp2_with fail
  go_ret
  exact ⟨rfl, HB2.out⟩
/-- What marking leaves. -/
def MarkedS (lo hi : Nat) (p l : Value) (rows : List (List Int)) (n K : Nat) (w : World) (e : Ending) (w' : World) : Prop :=
  e = .returned (.int .i64 (K + grid.tot rows + n : Nat)) ∧ OwnS lo hi w' p l (markRows K rows) (intfns.marks (K + grid.tot rows) n) ∧ Only lo hi w w'

set_option maxHeartbeats 400000 in
theorem mark_any (lo hi : Nat) (a : Option Addr) (c : Nat) (rows : List (List Int)) (b : Option Addr) (d : Nat) (zs : List Int) (K : Nat) (w : World) (h : OwnS lo hi w (.slice a rows.length c) (.slice b zs.length d) rows zs) (h2 : K + grid.tot rows + zs.length ≤ 4611686018427387904) (hn : rows.length ≤ 9223372036854775807) :
    Calls Try.prog 35 #[.agg #[.slice a rows.length c, .slice b zs.length d], .int .i64 K] w (MarkedS lo hi (.slice a rows.length c) (.slice b zs.length d) rows zs.length K w) := by
  have hB := ((Below.refl w.heap.size w).alloc (Nat.le_refl _) (.cells #[.slice a rows.length c, .slice b zs.length d] 56))
  obtain ⟨cs, k1, h3', h4⟩ := h
  have hlow : ∀ g, Blk cs rows.length g → g ≠ w.heap.size := fun g hg e => by have := (k1.blk hg).2.2; omega
  have hlow2 : ∀ g, (Value.slice b zs.length d).ownBlock = some g → g ≠ w.heap.size := fun g hg e => by have := (h3'.lt hg).2.2; omega
  have h1 : OwnC lo hi _ (.slice a rows.length c) rows cs := k1.stir (Stir.of_below (S := fun _ => False) hB) (fun _ _ h => h) (fun _ _ h => h)
  have h3 := h3'.below hB
  have HL := Lib.hid hlow
  have HL2 := Lib.hid hlow2
  have hblk : ∀ g, (Value.slice a rows.length c).ownBlock = some g → (Value.slice b zs.length d).ownBlock ≠ some g := fun g hg => ownsRow_ne h1.1 h3.1 (by decide) hg
  have hpl : ∀ g, (Value.slice a rows.length c).ownBlock = some g → ¬ Blk cs rows.length g := fun g hg ⟨i, hi, he⟩ => ownsRow_ne h1.1 (h1.2.2.2.1 i hi).1 (by decide) hg he
  have HP := Lib.hid hpl
  have HQ := Lib.hid hblk
  have H1 := Lib.hid h1
  have H3 := Lib.hid h3
  have H4 := Lib.hid h4
  have HB := Lib.hid hB
  clear hB h1 h3 h4 hpl hblk hlow hlow2 k1 h3'
  go_enter Try.func35, Try.ntmps35
  go_wp2_with fail
  refine (gridfns.mark_any lo hi _ _ rows cs K _ H1.out (by omega) hn).mono ?_
  rintro e w1 ⟨rfl, ho1, ht1⟩
  have hc : ∀ o, w1.cell? ⟨w.heap.size, o, none⟩ = (w.alloc (.cells #[.slice a rows.length c, .slice b zs.length d] 56)).cell? ⟨w.heap.size, o, none⟩ := fun o =>
    World.cell?_of_block (ht1.block w.heap.size (by simp) (fun hb => HL.out _ hb rfl))
  have HO1 := Lib.hid ho1
  have HL1 := Lib.hid (H3.out.stir ht1 H4.out)
  have HT1 := Lib.hid ht1
  clear ho1 ht1
  go_wp2_with fail
  refine (intfns.mark_any lo hi _ _ zs (K + grid.tot rows) _ HL1.out (by omega)).mono ?_
  rintro e w2 ⟨rfl, ho2, hg2⟩
  have HO2 := Lib.hid ho2
  have HG2 := Lib.hid hg2
  clear ho2 hg2
  go_wp2_with fail
  go_ret
  have hS2 : Stir (fun g => some g = (Value.slice b zs.length d).ownBlock) w1 w2 := Stir.of_grown (HG2.out _ rfl) fun g hg => hg.symm
  refine ⟨rfl, ⟨cs, HO1.out.stir hS2 (fun g hg e => HQ.out g hg e.symm) (fun g hg e => H4.out g e.symm (by rw [markRows_length] at hg; exact hg)), HO2.out, by rw [markRows_length]; exact H4.out⟩, ?_⟩
  refine (Only.of_below HB.out).trans ((HT1.out.only fun k hk => ⟨(H1.out.blk hk).1, (H1.out.blk hk).2.1⟩).trans (hS2.only fun k hk => ⟨(H3.out.lt hk.symm).1, (H3.out.lt hk.symm).2.1⟩))
theorem held_any (a : Option Addr) (c : Nat) (rows : List (List Int)) (b : Option Addr) (d n K : Nat) (w : World) (hr : grid.Reads w a (markRows K rows)) (hq : ints.Reads .i64 w b (intfns.marks (K + grid.tot rows) n)) (h2 : K + grid.tot rows + n ≤ 4611686018427387904) (hn : rows.length ≤ 9223372036854775807) :
    Calls Try.prog 36 #[.agg #[.slice a rows.length c, .slice b n d], .int .i64 K] w fun e w' => e = .returned (.int .i64 (K + grid.tot rows + n : Nat)) ∧ Below w.heap.size w w' := by
  have hB := ((Below.refl w.heap.size w).alloc (Nat.le_refl _) (.cells #[.slice a rows.length c, .slice b n d] 56))
  have hr1 := hr.below hB
  have hq1 := hq.below hB
  have HB := Lib.hid hB
  clear hB hr hq
  go_enter Try.func36, Try.ntmps36
  go_wp2_with fail
  refine (gridfns.held_any _ _ rows K _ hr1 (by omega) hn).mono ?_
  rintro e w1 ⟨rfl, hb⟩
  obtain ⟨hc, hf⟩ := bcell hb
  have hq2 := hq1.below hb
  have HB1 := Lib.hid (HB.out.trans (hb.mono (by simp)))
  have hs := hb.size
  simp at hs
  clear hb hr1 hq1
  go_wp2_with fail
  refine (intfns.held_any _ _ n (K + grid.tot rows) _ hq2 h2).mono ?_
  rintro e w2 ⟨rfl, hb⟩
  have HB2 := Lib.hid (HB1.out.trans (hb.mono (by omega)))
  clear hb
  go_wp2_with fail
  go_ret
  exact ⟨rfl, HB2.out⟩
end Go.Proofs.Ytoephhhofkmgjab.samplefns

namespace Go.Proofs.Ytoephhhofkmgjab.stepa
open Go.RowKit own
set_option linter.unusedVariables false

theorem step_append_any {ops : Array Oper} {o : Oper} {a : Act} {w : World} {K : Act → World → Prop} {Q : Exit → Act → World → Prop} {E : Prop} (hgd : o.guard = none) (s x : Operand) (t : TypeId)
    (ho : o.op = .call { callee := .builtin .append, args := #[s, x], argTypes := #[t, t] })
    (base : Nat) (e : TypeId) (i : TypeInfo) (z : Value) (size bytes : Nat) (ht : Try.prog.underlying t = some (.slice e)) (hi : Try.prog.info? e = some i) (hz : i.zero = some z)
    (hsize : i.size = size) (hby : i.bytes = bytes) (hzs : z.cells.size = size) (hsz : 0 < size)
    (v : Value) (n : Nat) (xs : List Value) (hs : a.eval s = v) (hown : w.ownsRow base e size v n xs)
    (ad : Addr) (m c : Nat) (news : List Value) (hx : a.eval x = .slice (some ad) m c) (hl : news.length = m * size) (hnews : ∀ j u, news[j]? = some u → w.cell? (ad.add j) = some u) (h1 : ∀ u ∈ news, u.oneCell' = true)
    (h63 : n + m ≤ maxLen) (hbytes : (n + m) * bytes ≤ 140737488355328) (hbase : base ≤ w.heap.size)
    (h : ∀ v' w', w'.ownsRow base e size v' (n + m) (xs ++ news) → w.grownBy w' v.ownBlock → (v'.ownBlock = v.ownBlock ∨ v'.ownBlock = some w.heap.size) → K (a.put o.dst v') w') :
    if Region.wanted o (yielded ops a.tmps) = true then Oper.wp Try.prog o a w K Q else E := by
  have hw : Region.wanted o (yielded ops a.tmps) = true := by simp [Region.wanted, hgd]
  rw [if_pos hw]
  obtain ⟨v', w', hr, h2, h3, _, h4⟩ := run_append_own_at (P := Try.prog) w base t o.type e i z size bytes ht hi hz hsize hby hzs hsz v n xs hown ad m c news hl hnews h1 h63 hbytes hbase
  unfold Oper.wp execOp
  simp only [ho, resolve, invoke, builtin, Sem.run_bind, Sem.run_pure, Result.andThen_ok, List.map_toArray, List.map_cons, List.map_nil, hs, hx, hr]
  exact h v' w' h2 h3 h4
end Go.Proofs.Ytoephhhofkmgjab.stepa
