/- The walk of FnExactMeanPlane, from what the model's function and the program's return. -/
import Derived.Test.YtkbcofgigfnfaaaRets
import Derived.Test.YtkbcofgigfnfaaaSampleFns
import Derived.Test.YtkbcofgigfnfaaaIntFns
import Derived.Test.YtkbcofgigfnfaaaOwnG
import Derived.Deep.RegionHeld3
namespace Go.Proofs.Ytkbcofgigfnfaaa.fnExactMeanPlanew
open Go.RowKit own
set_option linter.unusedVariables false
set_option linter.unusedSimpArgs false

set_option maxHeartbeats 1000000 in
theorem exit_sz0 (a0 : Option Addr) (rows0 : List (List Int)) (c0 : Nat) (e0 : Option Addr) (zs0 : List Int) (d0 : Nat) (w : World) (hr0 : grid.Reads w a0 rows0) (hq0 : ints.Reads .i64 w e0 zs0) (hl0 : rows0.length ≤ 9223372036854775807) (hm0 : ∀ s ∈ rows0, s.length ≤ 9223372036854775807) (hk0 : zs0.length ≤ 9223372036854775807)  (hx : 1048576 < (rows0.length : Int) + (grid.tot rows0 : Int) + (zs0.length : Int)) : Calls Try.prog 8 #[.agg #[.slice a0 rows0.length c0, .slice e0 zs0.length d0]] w fun e w' => e = .returned (.bool true) ∧ Below w.heap.size w w' := by
  have HR0 := Lib.hid hr0
  have HQ0 := Lib.hid hq0
  clear hr0 hq0
  have HM0 := Lib.hid hm0
  clear hm0
  go_enter Try.func8, Try.ntmps8
  go_wp2_with fail
  have x0_0 : (w.alloc (.cells #[.slice a0 rows0.length c0, .slice e0 zs0.length d0] 25)).cell? ⟨w.heap.size, 0, none⟩ = some (.slice a0 rows0.length c0) := cell_new _ _ _ (by simp) rfl
  have x0_1 : (w.alloc (.cells #[.slice a0 rows0.length c0, .slice e0 zs0.length d0] 25)).cell? ⟨w.heap.size, 1, none⟩ = some (.slice e0 zs0.length d0) := cell_new _ _ _ (by simp) rfl
  have HB0 := Lib.hid (below_alloc w (.cells #[.slice a0 rows0.length c0, .slice e0 zs0.length d0] 25))
  have s0_0 := size_alloc' w (.cells #[.slice a0 rows0.length c0, .slice e0 zs0.length d0] 25)
  have s0 : w.heap.size + 1 ≤ (w.alloc (.cells #[.slice a0 rows0.length c0, .slice e0 zs0.length d0] 25)).heap.size := by simp
  clear s0_0
  generalize hw : (w.alloc (.cells #[.slice a0 rows0.length c0, .slice e0 zs0.length d0] 25)) = w0 at *
  clear hw
  refine (samplefns.sz_no _ rows0 _ _ _ _ _ _ (HR0.out.below HB0.out) (by omega) HM0.out (by omega) (by omega) (by omega) (by omega)).mono ?_
  rintro e w1 ⟨rfl, hb⟩
  have s1 : w0.heap.size ≤ w1.heap.size := hb.size
  have n1_0 : w.heap.size < w1.heap.size := by omega
  replace x0_0 := cell_below hb x0_0 (by omega)
  replace x0_1 := cell_below hb x0_1 (by omega)
  have HB1 := Lib.hid (HB0.out.trans (hb.mono (by omega)))
  clear hb
  go_wp2_with fail
  go_ret
  exact ⟨rfl, HB1.out⟩

theorem law_big (a0 : Option Addr) (rows0 : List (List Int)) (c0 : Nat) (e0 : Option Addr) (zs0 : List Int) (d0 : Nat) (w : World) (hr0 : grid.Reads w a0 rows0) (hq0 : ints.Reads .i64 w e0 zs0) (hl0 : rows0.length ≤ 9223372036854775807) (hm0 : ∀ s ∈ rows0, s.length ≤ 9223372036854775807) (hk0 : zs0.length ≤ 9223372036854775807) (hx : ¬ ((rows0.length : Int) + (grid.tot rows0 : Int) + (zs0.length : Int) ≤ 1048576)) : Calls Try.prog 8 #[.agg #[.slice a0 rows0.length c0, .slice e0 zs0.length d0]] w fun e w' => e = .returned (.bool true) ∧ Below w.heap.size w w' := by
  by_cases k0 : 1048576 < (rows0.length : Int) + (grid.tot rows0 : Int) + (zs0.length : Int)
  · exact exit_sz0 a0 rows0 c0 e0 zs0 d0 w hr0 hq0 hl0 hm0 hk0   k0
  · exact absurd (by omega) hx

set_option maxRecDepth 100000 in
set_option maxHeartbeats 4000000 in
theorem law_small (a0 : Option Addr) (rows0 : List (List Int)) (c0 : Nat) (e0 : Option Addr) (zs0 : List Int) (d0 : Nat) (r0 : List Int) (r1 : Int) (ok : Bool) (w : World) (hr0 : grid.Reads w a0 rows0) (hq0 : ints.Reads .i64 w e0 zs0) (h0 : (rows0.length : Int) + (grid.tot rows0 : Int) + (zs0.length : Int) ≤ 1048576) (hz0 : r0.length ≤ 1048576)
    (HSpec : Hid (∀ (a0 : Option Addr) (c0 : Nat) (e0 : Option Addr) (d0 : Nat) (w : World), grid.Reads w a0 rows0 → ints.Reads .i64 w e0 zs0 → Calls Try.prog 36 #[.agg #[.slice a0 rows0.length c0, .slice e0 zs0.length d0]] w (RetINB r0 r1 ok w)))
    (HImpl : Hid (∀ (a0 : Option Addr) (c0 : Nat) (e0 : Option Addr) (d0 : Nat) (w : World), grid.Reads w a0 rows0 → ints.Reads .i64 w e0 zs0 → Calls Try.prog 37 #[.agg #[.slice a0 rows0.length c0, .slice e0 zs0.length d0]] w (RetINB r0 r1 ok w))) :
    Calls Try.prog 8 #[.agg #[.slice a0 rows0.length c0, .slice e0 zs0.length d0]] w fun e w' => e = .returned (.bool true) ∧ Below w.heap.size w w' := by
  have HR0 := Lib.hid hr0
  have HQ0 := Lib.hid hq0
  clear hr0 hq0
  go_enter Try.func8, Try.ntmps8
  go_wp2_with fail
  have x0_0 : (w.alloc (.cells #[.slice a0 rows0.length c0, .slice e0 zs0.length d0] 25)).cell? ⟨w.heap.size, 0, none⟩ = some (.slice a0 rows0.length c0) := cell_new _ _ _ (by simp) rfl
  have x0_1 : (w.alloc (.cells #[.slice a0 rows0.length c0, .slice e0 zs0.length d0] 25)).cell? ⟨w.heap.size, 1, none⟩ = some (.slice e0 zs0.length d0) := cell_new _ _ _ (by simp) rfl
  have HB0 := Lib.hid (below_alloc w (.cells #[.slice a0 rows0.length c0, .slice e0 zs0.length d0] 25))
  have s0_0 := size_alloc' w (.cells #[.slice a0 rows0.length c0, .slice e0 zs0.length d0] 25)
  have s0 : w.heap.size + 1 ≤ (w.alloc (.cells #[.slice a0 rows0.length c0, .slice e0 zs0.length d0] 25)).heap.size := by simp
  clear s0_0
  generalize hw : (w.alloc (.cells #[.slice a0 rows0.length c0, .slice e0 zs0.length d0] 25)) = w0 at *
  clear hw
  refine (samplefns.sz_yes _ rows0 _ _ _ _ _ _ (HR0.out.below HB0.out) (by omega) (by omega)).mono ?_
  rintro e w1 ⟨rfl, hb⟩
  have s1 : w0.heap.size ≤ w1.heap.size := hb.size
  have n1_0 : w.heap.size < w1.heap.size := by omega
  replace x0_0 := cell_below hb x0_0 (by omega)
  replace x0_1 := cell_below hb x0_1 (by omega)
  have HB1 := Lib.hid (HB0.out.trans (hb.mono (by omega)))
  clear hb
  go_wp2_with fail
  refine (samplefns.to_any a0 rows0 c0 e0 zs0 d0 _ (HR0.out.below HB1.out) (HQ0.out.below HB1.out) (by omega) (by omega)).mono ?_
  rintro e w2 ⟨v, l, rfl, ho, hb⟩
  obtain ⟨s0a, s0c, rfl, _, _, _⟩ := ho.grid.slice
  obtain ⟨s0e, s0d, rfl, _, _, _⟩ := ho.ints.slice
  have s2 : w1.heap.size ≤ w2.heap.size := hb.size
  have n2_0 : w.heap.size < w2.heap.size := by omega
  replace x0_0 := cell_below hb x0_0 (by omega)
  replace x0_1 := cell_below hb x0_1 (by omega)
  have HB2 := Lib.hid (HB1.out.trans (hb.mono (by omega)))
  clear hb
  have Os0 := Lib.hid ho
  clear ho
  go_wp2_with fail
  refine (HSpec.out _ _ _ _ _ Os0.out.grid.reads Os0.out.ints.reads).mono ?_
  rintro e w3 ⟨v, rfl, ho, hb⟩
  obtain ⟨va, vc, rfl, _, _, _⟩ := ho.slice
  have s3 : w2.heap.size ≤ w3.heap.size := hb.size
  have n3_0 : w.heap.size < w3.heap.size := by omega
  replace x0_0 := cell_below hb x0_0 (by omega)
  replace x0_1 := cell_below hb x0_1 (by omega)
  have HB3 := Lib.hid (HB2.out.trans (hb.mono (by omega)))
  replace Os0 := Lib.hid (Os0.out.below hb)
  clear hb
  have Ov := Lib.hid ho
  clear ho
  clear Os0
  go_wp2_with fail
  refine (samplefns.to_any a0 rows0 c0 e0 zs0 d0 _ (HR0.out.below HB3.out) (HQ0.out.below HB3.out) (by omega) (by omega)).mono ?_
  rintro e w4 ⟨v, l, rfl, ho, hb⟩
  obtain ⟨x0a, x0c, rfl, _, _, _⟩ := ho.grid.slice
  obtain ⟨x0e, x0d, rfl, _, _, _⟩ := ho.ints.slice
  have s4 : w3.heap.size ≤ w4.heap.size := hb.size
  have n4_0 : w.heap.size < w4.heap.size := by omega
  replace x0_0 := cell_below hb x0_0 (by omega)
  replace x0_1 := cell_below hb x0_1 (by omega)
  have HB4 := Lib.hid (HB3.out.trans (hb.mono (by omega)))
  replace Ov := Lib.hid (Ov.out.below hb)
  clear hb
  have Ox0 := Lib.hid ho
  clear ho
  go_wp2_with fail
  have p0_0 : (w4.alloc (.cells #[.slice x0a rows0.length x0c, .slice x0e zs0.length x0d] 29)).cell? ⟨w4.heap.size, 0, none⟩ = some (.slice x0a rows0.length x0c) := cell_new _ _ _ rfl rfl
  have p0_1 : (w4.alloc (.cells #[.slice x0a rows0.length x0c, .slice x0e zs0.length x0d] 29)).cell? ⟨w4.heap.size, 1, none⟩ = some (.slice x0e zs0.length x0d) := cell_new _ _ _ rfl rfl
  have hb := below_alloc w4 (.cells #[.slice x0a rows0.length x0c, .slice x0e zs0.length x0d] 29)
  have z5 := size_alloc' w4 (.cells #[.slice x0a rows0.length x0c, .slice x0e zs0.length x0d] 29)
  generalize hw : w4.alloc (.cells #[.slice x0a rows0.length x0c, .slice x0e zs0.length x0d] 29) = w5 at *
  clear hw
  have s5 : w4.heap.size ≤ w5.heap.size := hb.size
  have n5_0 : w.heap.size < w5.heap.size := by omega
  replace x0_0 := cell_below hb x0_0 (by omega)
  replace x0_1 := cell_below hb x0_1 (by omega)
  have HB5 := Lib.hid (HB4.out.trans (hb.mono (by omega)))
  replace Ov := Lib.hid (Ov.out.below hb)
  replace Ox0 := Lib.hid (Ox0.out.below hb)
  clear hb
  refine (HImpl.out _ _ _ _ _ Ox0.out.grid.reads Ox0.out.ints.reads).mono ?_
  rintro e w6 ⟨v, rfl, ho, hb⟩
  obtain ⟨ga, gc, rfl, _, _, _⟩ := ho.slice
  have s6 : w5.heap.size ≤ w6.heap.size := hb.size
  have n6_0 : w.heap.size < w6.heap.size := by omega
  have n6_1 : w4.heap.size < w6.heap.size := by omega
  replace x0_0 := cell_below hb x0_0 (by omega)
  replace x0_1 := cell_below hb x0_1 (by omega)
  replace p0_0 := cell_below hb p0_0 (by omega)
  replace p0_1 := cell_below hb p0_1 (by omega)
  have HB6 := Lib.hid (HB5.out.trans (hb.mono (by omega)))
  replace Ov := Lib.hid (Ov.out.below hb)
  replace Ox0 := Lib.hid (Ox0.out.below hb)
  clear hb
  have Og := Lib.hid ho
  clear ho
  go_wp2_with fail
  refine (intfns.eq_same _ _ r0 _ _ _ Og.out.reads Ov.out.reads (by omega)).mono ?_
  rintro e w7 ⟨rfl, hb⟩
  have s7 : w6.heap.size ≤ w7.heap.size := hb.size
  have n7_0 : w.heap.size < w7.heap.size := by omega
  have n7_1 : w4.heap.size < w7.heap.size := by omega
  replace x0_0 := cell_below hb x0_0 (by omega)
  replace x0_1 := cell_below hb x0_1 (by omega)
  replace p0_0 := cell_below hb p0_0 (by omega)
  replace p0_1 := cell_below hb p0_1 (by omega)
  have HB7 := Lib.hid (HB6.out.trans (hb.mono (by omega)))
  replace Ov := Lib.hid (Ov.out.below hb)
  replace Ox0 := Lib.hid (Ox0.out.below hb)
  replace Og := Lib.hid (Og.out.below hb)
  clear hb
  go_wp2_with fail
  have HT1 := Lib.hid (show ∀ wa : World, (wa.cell? ⟨w.heap.size, 0, none⟩ = some (.slice a0 rows0.length c0) ∧ wa.cell? ⟨w.heap.size, 1, none⟩ = some (.slice e0 zs0.length d0) ∧ wa.cell? ⟨w4.heap.size, 0, none⟩ = some (.slice x0a rows0.length x0c) ∧ wa.cell? ⟨w4.heap.size, 1, none⟩ = some (.slice x0e zs0.length x0d) ∧ Below w7.heap.size w7 wa) → Calls Try.prog 17 #[.agg #[.slice a0 rows0.length c0, .slice e0 zs0.length d0]] wa fun e w' => ∃ p q p' q', e = .returned (.agg #[.slice p rows0.length q, .slice p' zs0.length q']) ∧ grid.Reads w' p rows0 ∧ ints.Reads .i64 w' p' zs0 ∧ (w'.cell? ⟨w.heap.size, 0, none⟩ = some (.slice a0 rows0.length c0) ∧ w'.cell? ⟨w.heap.size, 1, none⟩ = some (.slice e0 zs0.length d0) ∧ w'.cell? ⟨w4.heap.size, 0, none⟩ = some (.slice x0a rows0.length x0c) ∧ w'.cell? ⟨w4.heap.size, 1, none⟩ = some (.slice x0e zs0.length x0d) ∧ Below w7.heap.size w7 w') from fun wa hS => by
    have hz := hS.2.2.2.2.size
    refine (samplefns.to_any a0 rows0 c0 e0 zs0 d0 _ (HR0.out.below (HB7.out.trans (hS.2.2.2.2.mono (by omega)))) (HQ0.out.below (HB7.out.trans (hS.2.2.2.2.mono (by omega)))) (by omega) (by omega)).mono ?_
    rintro e w' ⟨v, l, rfl, ho, hb⟩
    obtain ⟨p, q, rfl, _, _, _⟩ := ho.grid.slice
    obtain ⟨p', q', rfl, _, _, _⟩ := ho.ints.slice
    exact ⟨p, q, p', q', rfl, ho.grid.reads, ho.ints.reads, cell_below hb hS.1 (by omega), cell_below hb hS.2.1 (by omega), cell_below hb hS.2.2.1 (by omega), cell_below hb hS.2.2.2.1 (by omega), hS.2.2.2.2.trans (hb.mono (by omega))⟩)
  have HT2 := Lib.hid (show ∀ (wa : World) (p : Option Addr) (q : Nat) (p' : Option Addr) (q' : Nat), (wa.cell? ⟨w.heap.size, 0, none⟩ = some (.slice a0 rows0.length c0) ∧ wa.cell? ⟨w.heap.size, 1, none⟩ = some (.slice e0 zs0.length d0) ∧ wa.cell? ⟨w4.heap.size, 0, none⟩ = some (.slice x0a rows0.length x0c) ∧ wa.cell? ⟨w4.heap.size, 1, none⟩ = some (.slice x0e zs0.length x0d) ∧ Below w7.heap.size w7 wa) → grid.Reads wa p rows0 → ints.Reads .i64 wa p' zs0 → Calls Try.prog 21 #[.agg #[.slice x0a rows0.length x0c, .slice x0e zs0.length x0d], .agg #[.slice p rows0.length q, .slice p' zs0.length q']] wa fun e w' => e = .returned (.bool true) ∧ (w'.cell? ⟨w.heap.size, 0, none⟩ = some (.slice a0 rows0.length c0) ∧ w'.cell? ⟨w.heap.size, 1, none⟩ = some (.slice e0 zs0.length d0) ∧ w'.cell? ⟨w4.heap.size, 0, none⟩ = some (.slice x0a rows0.length x0c) ∧ w'.cell? ⟨w4.heap.size, 1, none⟩ = some (.slice x0e zs0.length x0d) ∧ Below w7.heap.size w7 w') from fun wa p q p' q' hS k1 k2 => by
    have hz := hS.2.2.2.2.size
    have ho := Ox0.out.below hS.2.2.2.2
    refine (samplefns.eq_same _ _ rows0 _ _ _ _ zs0 _ _ _ ho.grid.reads k1 ho.ints.reads k2 (by omega) (fun s hs => by have := grid.len_le_tot rows0 s hs; omega) (by omega)).mono ?_
    rintro e w' ⟨rfl, hb⟩
    exact ⟨rfl, cell_below hb hS.1 (by omega), cell_below hb hS.2.1 (by omega), cell_below hb hS.2.2.1 (by omega), cell_below hb hS.2.2.2.1 (by omega), hS.2.2.2.2.trans (hb.mono (by omega))⟩)
  go_region_held3 (fun w' => w'.cell? ⟨w.heap.size, 0, none⟩ = some (.slice a0 rows0.length c0) ∧ w'.cell? ⟨w.heap.size, 1, none⟩ = some (.slice e0 zs0.length d0) ∧ w'.cell? ⟨w4.heap.size, 0, none⟩ = some (.slice x0a rows0.length x0c) ∧ w'.cell? ⟨w4.heap.size, 1, none⟩ = some (.slice x0e zs0.length x0d) ∧ Below w7.heap.size w7 w') (first | assumption | exact ⟨x0_0, x0_1, p0_0, p0_1, Below.refl _ _⟩ | exact ⟨x0_0, x0_1, p0_0, p0_1, (Below.refl _ _).drew⟩) (first | (go_at_call 17; refine Calls.mono (HT1.out _ ?_) ?_; assumption; rintro e w' ⟨p, q, p', q', rfl, k1, k2, hbx⟩) | (go_at_call 21; refine Calls.mono (HT2.out _ _ _ _ _ ?_ ?_ ?_) ?_; assumption; assumption; assumption; rintro e w8 ⟨rfl, hbx⟩))
  obtain ⟨_, _, _, _, hb⟩ := hbx
  have s8 : w7.heap.size ≤ w8.heap.size := hb.size
  have n8_0 : w.heap.size < w8.heap.size := by omega
  have n8_1 : w4.heap.size < w8.heap.size := by omega
  replace x0_0 := cell_below hb x0_0 (by omega)
  replace x0_1 := cell_below hb x0_1 (by omega)
  replace p0_0 := cell_below hb p0_0 (by omega)
  replace p0_1 := cell_below hb p0_1 (by omega)
  have HB8 := Lib.hid (HB7.out.trans (hb.mono (by omega)))
  replace Ov := Lib.hid (Ov.out.below hb)
  replace Ox0 := Lib.hid (Ox0.out.below hb)
  replace Og := Lib.hid (Og.out.below hb)
  clear hb
  clear HT1 HT2
  go_wp2_with fail
  refine (samplefns.mark_any (w3.heap.size) (w4.heap.size) _ _ rows0 _ _ zs0 (1) _ Ox0.out (by omega) (by omega)).mono ?_
  rintro e w9 ⟨rfl, ho, hb⟩
  have s9 : w8.heap.size ≤ w9.heap.size := hb.size
  have n9_0 : w.heap.size < w9.heap.size := by omega
  have n9_1 : w4.heap.size < w9.heap.size := by omega
  replace x0_0 := hb.cell x0_0 (by omega) (by omega)
  replace x0_1 := hb.cell x0_1 (by omega) (by omega)
  replace p0_0 := hb.cell p0_0 (by omega) (by omega)
  replace p0_1 := hb.cell p0_1 (by omega) (by omega)
  have HB9 := Lib.hid (HB8.out.trans ((hb.below (by omega)).mono (by omega)))
  replace Ov := Lib.hid (Ov.out.only hb (by omega))
  replace Og := Lib.hid (Og.out.only hb (by omega))
  clear hb
  replace Ox0 := Lib.hid ho
  clear ho
  go_wp2_with fail
  refine (intfns.eq_same _ _ r0 _ _ _ Og.out.reads Ov.out.reads (by omega)).mono ?_
  rintro e w10 ⟨rfl, hb⟩
  have s10 : w9.heap.size ≤ w10.heap.size := hb.size
  have n10_0 : w.heap.size < w10.heap.size := by omega
  have n10_1 : w4.heap.size < w10.heap.size := by omega
  replace x0_0 := cell_below hb x0_0 (by omega)
  replace x0_1 := cell_below hb x0_1 (by omega)
  replace p0_0 := cell_below hb p0_0 (by omega)
  replace p0_1 := cell_below hb p0_1 (by omega)
  have HB10 := Lib.hid (HB9.out.trans (hb.mono (by omega)))
  replace Ov := Lib.hid (Ov.out.below hb)
  replace Ox0 := Lib.hid (Ox0.out.below hb)
  replace Og := Lib.hid (Og.out.below hb)
  clear hb
  go_wp2_with fail
  clear Ox0
  refine (intfns.mark_any (w5.heap.size) (w6.heap.size) _ _ r0 (1) _ Og.out (by omega)).mono ?_
  rintro e w11 ⟨rfl, ho, hg⟩
  have hb : Only (w5.heap.size) (w6.heap.size) w10 w11 := Only.of_grown (hg _ rfl) fun g hg => ⟨(Og.out.lt hg).1, (Og.out.lt hg).2.1⟩
  clear hg
  have s11 : w10.heap.size ≤ w11.heap.size := hb.size
  have n11_0 : w.heap.size < w11.heap.size := by omega
  have n11_1 : w4.heap.size < w11.heap.size := by omega
  replace x0_0 := hb.cell x0_0 (by omega) (by omega)
  replace x0_1 := hb.cell x0_1 (by omega) (by omega)
  replace p0_0 := hb.cell p0_0 (by omega) (by omega)
  replace p0_1 := hb.cell p0_1 (by omega) (by omega)
  have HB11 := Lib.hid (HB10.out.trans ((hb.below (by omega)).mono (by omega)))
  replace Ov := Lib.hid (Ov.out.only hb (by omega))
  clear hb
  replace Og := Lib.hid ho
  clear ho
  go_wp2_with fail
  refine (intfns.held_any _ _ r0.length (1) _ Og.out.reads (by omega)).mono ?_
  rintro e w12 ⟨rfl, hb⟩
  have s12 : w11.heap.size ≤ w12.heap.size := hb.size
  have n12_0 : w.heap.size < w12.heap.size := by omega
  have n12_1 : w4.heap.size < w12.heap.size := by omega
  replace x0_0 := cell_below hb x0_0 (by omega)
  replace x0_1 := cell_below hb x0_1 (by omega)
  replace p0_0 := cell_below hb p0_0 (by omega)
  replace p0_1 := cell_below hb p0_1 (by omega)
  have HB12 := Lib.hid (HB11.out.trans (hb.mono (by omega)))
  replace Ov := Lib.hid (Ov.out.below hb)
  replace Og := Lib.hid (Og.out.below hb)
  clear hb
  go_wp2_with fail
  refine (samplefns.to_any a0 rows0 c0 e0 zs0 d0 _ (HR0.out.below HB12.out) (HQ0.out.below HB12.out) (by omega) (by omega)).mono ?_
  rintro e w13 ⟨v, l, rfl, ho, hb⟩
  obtain ⟨h0a, h0c, rfl, _, _, _⟩ := ho.grid.slice
  obtain ⟨h0e, h0d, rfl, _, _, _⟩ := ho.ints.slice
  have s13 : w12.heap.size ≤ w13.heap.size := hb.size
  have n13_0 : w.heap.size < w13.heap.size := by omega
  have n13_1 : w4.heap.size < w13.heap.size := by omega
  replace x0_0 := cell_below hb x0_0 (by omega)
  replace x0_1 := cell_below hb x0_1 (by omega)
  replace p0_0 := cell_below hb p0_0 (by omega)
  replace p0_1 := cell_below hb p0_1 (by omega)
  have HB13 := Lib.hid (HB12.out.trans (hb.mono (by omega)))
  replace Ov := Lib.hid (Ov.out.below hb)
  replace Og := Lib.hid (Og.out.below hb)
  clear hb
  have Oh0 := Lib.hid ho
  clear ho
  go_wp2_with fail
  refine (HImpl.out _ _ _ _ _ Oh0.out.grid.reads Oh0.out.ints.reads).mono ?_
  rintro e w14 ⟨v, rfl, ho, hb⟩
  obtain ⟨ha, hc, rfl, _, _, _⟩ := ho.slice
  have s14 : w13.heap.size ≤ w14.heap.size := hb.size
  have n14_0 : w.heap.size < w14.heap.size := by omega
  have n14_1 : w4.heap.size < w14.heap.size := by omega
  replace x0_0 := cell_below hb x0_0 (by omega)
  replace x0_1 := cell_below hb x0_1 (by omega)
  replace p0_0 := cell_below hb p0_0 (by omega)
  replace p0_1 := cell_below hb p0_1 (by omega)
  have HB14 := Lib.hid (HB13.out.trans (hb.mono (by omega)))
  replace Ov := Lib.hid (Ov.out.below hb)
  replace Og := Lib.hid (Og.out.below hb)
  replace Oh0 := Lib.hid (Oh0.out.below hb)
  clear hb
  have Oh := Lib.hid ho
  clear ho
  clear Oh0
  go_wp2_with fail
  refine (intfns.eq_same _ _ r0 _ _ _ Oh.out.reads Ov.out.reads (by omega)).mono ?_
  rintro e w15 ⟨rfl, hb⟩
  have s15 : w14.heap.size ≤ w15.heap.size := hb.size
  have n15_0 : w.heap.size < w15.heap.size := by omega
  have n15_1 : w4.heap.size < w15.heap.size := by omega
  replace x0_0 := cell_below hb x0_0 (by omega)
  replace x0_1 := cell_below hb x0_1 (by omega)
  replace p0_0 := cell_below hb p0_0 (by omega)
  replace p0_1 := cell_below hb p0_1 (by omega)
  have HB15 := Lib.hid (HB14.out.trans (hb.mono (by omega)))
  replace Ov := Lib.hid (Ov.out.below hb)
  replace Og := Lib.hid (Og.out.below hb)
  replace Oh := Lib.hid (Oh.out.below hb)
  clear hb
  go_wp2_with fail
  refine (intfns.held_any _ _ r0.length (1) _ Og.out.reads (by omega)).mono ?_
  rintro e w16 ⟨rfl, hb⟩
  have s16 : w15.heap.size ≤ w16.heap.size := hb.size
  have n16_0 : w.heap.size < w16.heap.size := by omega
  have n16_1 : w4.heap.size < w16.heap.size := by omega
  replace x0_0 := cell_below hb x0_0 (by omega)
  replace x0_1 := cell_below hb x0_1 (by omega)
  replace p0_0 := cell_below hb p0_0 (by omega)
  replace p0_1 := cell_below hb p0_1 (by omega)
  have HB16 := Lib.hid (HB15.out.trans (hb.mono (by omega)))
  replace Ov := Lib.hid (Ov.out.below hb)
  replace Og := Lib.hid (Og.out.below hb)
  replace Oh := Lib.hid (Oh.out.below hb)
  clear hb
  go_wp2_with fail
  go_ret
  exact ⟨rfl, HB16.out⟩
end Go.Proofs.Ytkbcofgigfnfaaa.fnExactMeanPlanew
