/- Several texts in one. -/
import Derived.Deep.RegionHeld3
import Derived.Test.YthohnnobahcdpaaBrG44
import Derived.Test.YthohnnobahcdpaaBrG13
import Derived.Test.YthohnnobahcdpaaSampleFns
import Derived.Test.YthohnnobahcdpaaIntFns
import Derived.Test.YthohnnobahcdpaaOwnG
namespace Go.Proofs.Ythohnnobahcdpaa.fnExactBoostRoundsw
open Go.RowKit own boostl
set_option linter.unusedVariables false
set_option linter.unusedSimpArgs false

set_option maxHeartbeats 1000000 in
theorem exit_sz0 (a0 : Option Addr) (rows0 : List (List Int)) (c0 : Nat) (e0 : Option Addr) (zs0 : List Int) (d0 : Nat) (n1 : Int) (w : World) (hr0 : grid.Reads w a0 rows0) (hq0 : ints.Reads .i64 w e0 zs0) (hl0 : rows0.length ≤ 9223372036854775807) (hm0 : ∀ s ∈ rows0, s.length ≤ 9223372036854775807) (hk0 : zs0.length ≤ 9223372036854775807)   (hx : 1048576 < (rows0.length : Int) + (grid.tot rows0 : Int) + (zs0.length : Int)) : Calls Try.prog 7 #[.agg #[.slice a0 rows0.length c0, .slice e0 zs0.length d0], .int .i64 n1] w fun e w' => e = .returned (.bool true) ∧ Below w.heap.size w w' := by
  have HR0 := Lib.hid hr0
  have HQ0 := Lib.hid hq0
  clear hr0 hq0
  have HM0 := Lib.hid hm0
  clear hm0
  go_enter Try.func7, Try.ntmps7
  go_wp2_with fail
  have x0_0 : (w.alloc (.cells #[.slice a0 rows0.length c0, .slice e0 zs0.length d0] 33)).cell? ⟨w.heap.size, 0, none⟩ = some (.slice a0 rows0.length c0) := cell_new _ _ _ (by simp) rfl
  have x0_1 : (w.alloc (.cells #[.slice a0 rows0.length c0, .slice e0 zs0.length d0] 33)).cell? ⟨w.heap.size, 1, none⟩ = some (.slice e0 zs0.length d0) := cell_new _ _ _ (by simp) rfl
  have HB0 := Lib.hid (below_alloc w (.cells #[.slice a0 rows0.length c0, .slice e0 zs0.length d0] 33))
  have s0_0 := size_alloc' w (.cells #[.slice a0 rows0.length c0, .slice e0 zs0.length d0] 33)
  have s0 : w.heap.size + 1 ≤ (w.alloc (.cells #[.slice a0 rows0.length c0, .slice e0 zs0.length d0] 33)).heap.size := by simp
  clear s0_0
  generalize hw : (w.alloc (.cells #[.slice a0 rows0.length c0, .slice e0 zs0.length d0] 33)) = w0 at *
  clear hw
  refine (samplefns.sz_no _ rows0 _ _ _ _ _ _ (HR0.out.below HB0.out) (by omega) HM0.out (by omega) (by omega) (by omega) (by omega)).mono ?_
  rintro e w1 ⟨rfl, hb⟩
  have s1 : w0.heap.size ≤ w1.heap.size := hb.size
  have n1_0 : w.heap.size < w1.heap.size := by omega
  replace x0_0 := cell_below hb x0_0 (by omega)
  replace x0_1 := cell_below hb x0_1 (by omega)
  have HB1 := Lib.hid (HB0.out.trans (hb.mono (by omega)))
  clear hb
  go_wp2_with fail
  go_ret
  exact ⟨rfl, HB1.out⟩

theorem law_big (a0 : Option Addr) (rows0 : List (List Int)) (c0 : Nat) (e0 : Option Addr) (zs0 : List Int) (d0 : Nat) (n1 : Int) (w : World) (hr0 : grid.Reads w a0 rows0) (hq0 : ints.Reads .i64 w e0 zs0) (hl0 : rows0.length ≤ 9223372036854775807) (hm0 : ∀ s ∈ rows0, s.length ≤ 9223372036854775807) (hk0 : zs0.length ≤ 9223372036854775807)  (hx : ¬ ((rows0.length : Int) + (grid.tot rows0 : Int) + (zs0.length : Int) ≤ 1048576)) : Calls Try.prog 7 #[.agg #[.slice a0 rows0.length c0, .slice e0 zs0.length d0], .int .i64 n1] w fun e w' => e = .returned (.bool true) ∧ Below w.heap.size w w' := by
  by_cases k0 : 1048576 < (rows0.length : Int) + (grid.tot rows0 : Int) + (zs0.length : Int)
  · exact exit_sz0 a0 rows0 c0 e0 zs0 d0 n1 w hr0 hq0 hl0 hm0 hk0   k0
  · exact absurd (by omega) hx

set_option maxRecDepth 100000 in
set_option maxHeartbeats 4000000 in
theorem law_small (a0 : Option Addr) (rows0 : List (List Int)) (c0 : Nat) (e0 : Option Addr) (zs0 : List Int) (d0 : Nat) (n1 : Int) (r0 : List (List Int × Int)) (r1 : List Int) (ok : Bool) (w : World) (hr0 : grid.Reads w a0 rows0) (hq0 : ints.Reads .i64 w e0 zs0) (h0 : (rows0.length : Int) + (grid.tot rows0 : Int) + (zs0.length : Int) ≤ 1048576) (hz0 : r0.length + planesfns.totJ r0 ≤ 1048576) (hz1 : r1.length ≤ 1048576)
    (HSpec : Hid (∀ (a0 : Option Addr) (c0 : Nat) (e0 : Option Addr) (d0 : Nat) (w : World), grid.Reads w a0 rows0 → ints.Reads .i64 w e0 zs0 → Calls Try.prog 39 #[.agg #[.slice a0 rows0.length c0, .slice e0 zs0.length d0], .int .i64 n1] w (RetJIB r0 r1 ok w)))
    (HImpl : Hid (∀ (a0 : Option Addr) (c0 : Nat) (e0 : Option Addr) (d0 : Nat) (w : World), grid.Reads w a0 rows0 → ints.Reads .i64 w e0 zs0 → Calls Try.prog 40 #[.agg #[.slice a0 rows0.length c0, .slice e0 zs0.length d0], .int .i64 n1] w (RetJIB r0 r1 ok w))) :
    Calls Try.prog 7 #[.agg #[.slice a0 rows0.length c0, .slice e0 zs0.length d0], .int .i64 n1] w fun e w' => e = .returned (.bool true) ∧ Below w.heap.size w w' := by
  have HR0 := Lib.hid hr0
  have HQ0 := Lib.hid hq0
  clear hr0 hq0
  go_enter Try.func7, Try.ntmps7
  go_wp2_with fail
  have x0_0 : (w.alloc (.cells #[.slice a0 rows0.length c0, .slice e0 zs0.length d0] 33)).cell? ⟨w.heap.size, 0, none⟩ = some (.slice a0 rows0.length c0) := cell_new _ _ _ (by simp) rfl
  have x0_1 : (w.alloc (.cells #[.slice a0 rows0.length c0, .slice e0 zs0.length d0] 33)).cell? ⟨w.heap.size, 1, none⟩ = some (.slice e0 zs0.length d0) := cell_new _ _ _ (by simp) rfl
  have HB0 := Lib.hid (below_alloc w (.cells #[.slice a0 rows0.length c0, .slice e0 zs0.length d0] 33))
  have s0_0 := size_alloc' w (.cells #[.slice a0 rows0.length c0, .slice e0 zs0.length d0] 33)
  have s0 : w.heap.size + 1 ≤ (w.alloc (.cells #[.slice a0 rows0.length c0, .slice e0 zs0.length d0] 33)).heap.size := by simp
  clear s0_0
  generalize hw : (w.alloc (.cells #[.slice a0 rows0.length c0, .slice e0 zs0.length d0] 33)) = w0 at *
  clear hw
  refine (samplefns.sz_yes _ rows0 _ _ _ _ _ _ (HR0.out.below HB0.out) (by omega) (by omega)).mono ?_
  rintro e w1 ⟨rfl, hb⟩
  have s1 : w0.heap.size ≤ w1.heap.size := hb.size
  have n1_0 : w.heap.size < w1.heap.size := by omega
  replace x0_0 := cell_below hb x0_0 (by omega)
  replace x0_1 := cell_below hb x0_1 (by omega)
  have HB1 := Lib.hid (HB0.out.trans (hb.mono (by omega)))
  clear hb
  go_wp2_with fail
  refine (samplefns.to_any a0 rows0 c0 e0 zs0 d0 _ (HR0.out.below HB1.out) (HQ0.out.below HB1.out) (by omega) (by omega)).mono ?_
  rintro e w2 ⟨v, l, rfl, ho, hb⟩
  obtain ⟨s0a, s0c, rfl, _, _, _⟩ := ho.grid.slice
  obtain ⟨s0e, s0d, rfl, _, _, _⟩ := ho.ints.slice
  have s2 : w1.heap.size ≤ w2.heap.size := hb.size
  have n2_0 : w.heap.size < w2.heap.size := by omega
  replace x0_0 := cell_below hb x0_0 (by omega)
  replace x0_1 := cell_below hb x0_1 (by omega)
  have HB2 := Lib.hid (HB1.out.trans (hb.mono (by omega)))
  clear hb
  have Os0 := Lib.hid ho
  clear ho
  go_wp2_with fail
  refine (HSpec.out _ _ _ _ _ Os0.out.grid.reads Os0.out.ints.reads).mono ?_
  rintro e w3 ⟨v, u, rfl, ⟨ghv, csv, hgh, ho2, ho, hav⟩, hb⟩
  obtain ⟨va, vc, rfl⟩ := ho.slice
  obtain ⟨ve, vd, rfl, _, _, _⟩ := ho2.slice
  have hgbv := ho2.lt hgh
  have ho2 := ho2.narrow (lo' := ghv) (hi' := ghv + 1) (fun g hg => by rw [hgh] at hg; cases hg; omega)
  have HGv := Lib.hid hgh
  have AVv := Lib.hid hav
  clear hgh hav
  have s3 : w2.heap.size ≤ w3.heap.size := hb.size
  have n3_0 : w.heap.size < w3.heap.size := by omega
  replace x0_0 := cell_below hb x0_0 (by omega)
  replace x0_1 := cell_below hb x0_1 (by omega)
  have HB3 := Lib.hid (HB2.out.trans (hb.mono (by omega)))
  replace Os0 := Lib.hid (Os0.out.below hb)
  clear hb
  have Ov := Lib.hid ho
  have Ov2 := Lib.hid ho2
  clear ho ho2
  clear Os0
  go_wp2_with fail
  refine (samplefns.to_any a0 rows0 c0 e0 zs0 d0 _ (HR0.out.below HB3.out) (HQ0.out.below HB3.out) (by omega) (by omega)).mono ?_
  rintro e w4 ⟨v, l, rfl, ho, hb⟩
  obtain ⟨x0a, x0c, rfl, _, _, _⟩ := ho.grid.slice
  obtain ⟨x0e, x0d, rfl, _, _, _⟩ := ho.ints.slice
  have s4 : w3.heap.size ≤ w4.heap.size := hb.size
  have n4_0 : w.heap.size < w4.heap.size := by omega
  replace x0_0 := cell_below hb x0_0 (by omega)
  replace x0_1 := cell_below hb x0_1 (by omega)
  have HB4 := Lib.hid (HB3.out.trans (hb.mono (by omega)))
  replace Ov := Lib.hid (Ov.out.below hb)
  replace Ov2 := Lib.hid (Ov2.out.below hb)
  clear hb
  have Ox0 := Lib.hid ho
  clear ho
  go_wp2_with fail
  have p0_0 : (w4.alloc (.cells #[.slice x0a rows0.length x0c, .slice x0e zs0.length x0d] 38)).cell? ⟨w4.heap.size, 0, none⟩ = some (.slice x0a rows0.length x0c) := cell_new _ _ _ rfl rfl
  have p0_1 : (w4.alloc (.cells #[.slice x0a rows0.length x0c, .slice x0e zs0.length x0d] 38)).cell? ⟨w4.heap.size, 1, none⟩ = some (.slice x0e zs0.length x0d) := cell_new _ _ _ rfl rfl
  have hb := below_alloc w4 (.cells #[.slice x0a rows0.length x0c, .slice x0e zs0.length x0d] 38)
  have z5 := size_alloc' w4 (.cells #[.slice x0a rows0.length x0c, .slice x0e zs0.length x0d] 38)
  generalize hw : w4.alloc (.cells #[.slice x0a rows0.length x0c, .slice x0e zs0.length x0d] 38) = w5 at *
  clear hw
  have s5 : w4.heap.size ≤ w5.heap.size := hb.size
  have n5_0 : w.heap.size < w5.heap.size := by omega
  replace x0_0 := cell_below hb x0_0 (by omega)
  replace x0_1 := cell_below hb x0_1 (by omega)
  have HB5 := Lib.hid (HB4.out.trans (hb.mono (by omega)))
  replace Ov := Lib.hid (Ov.out.below hb)
  replace Ov2 := Lib.hid (Ov2.out.below hb)
  replace Ox0 := Lib.hid (Ox0.out.below hb)
  clear hb
  refine (HImpl.out _ _ _ _ _ Ox0.out.grid.reads Ox0.out.ints.reads).mono ?_
  rintro e w6 ⟨v, u, rfl, ⟨ghg, csg, hgh, ho2, ho, hav⟩, hb⟩
  obtain ⟨ga, gc, rfl⟩ := ho.slice
  obtain ⟨ge, gd, rfl, _, _, _⟩ := ho2.slice
  have hgbg := ho2.lt hgh
  have ho2 := ho2.narrow (lo' := ghg) (hi' := ghg + 1) (fun g hg => by rw [hgh] at hg; cases hg; omega)
  have HGg := Lib.hid hgh
  have AVg := Lib.hid hav
  clear hgh hav
  have s6 : w5.heap.size ≤ w6.heap.size := hb.size
  have n6_0 : w.heap.size < w6.heap.size := by omega
  have n6_1 : w4.heap.size < w6.heap.size := by omega
  replace x0_0 := cell_below hb x0_0 (by omega)
  replace x0_1 := cell_below hb x0_1 (by omega)
  replace p0_0 := cell_below hb p0_0 (by omega)
  replace p0_1 := cell_below hb p0_1 (by omega)
  have HB6 := Lib.hid (HB5.out.trans (hb.mono (by omega)))
  replace Ov := Lib.hid (Ov.out.below hb)
  replace Ov2 := Lib.hid (Ov2.out.below hb)
  replace Ox0 := Lib.hid (Ox0.out.below hb)
  clear hb
  have Og := Lib.hid ho
  have Og2 := Lib.hid ho2
  clear ho ho2
  go_wp2_with fail
  refine (planesfns.eq_same _ _ r0 _ _ _ Og.out.reads Ov.out.reads (by omega) (fun s hs => by have := planesfns.len_le_totJ r0 s hs; omega)).mono ?_
  rintro e w7 ⟨rfl, hb⟩
  have s7 : w6.heap.size ≤ w7.heap.size := hb.size
  have n7_0 : w.heap.size < w7.heap.size := by omega
  have n7_1 : w4.heap.size < w7.heap.size := by omega
  replace x0_0 := cell_below hb x0_0 (by omega)
  replace x0_1 := cell_below hb x0_1 (by omega)
  replace p0_0 := cell_below hb p0_0 (by omega)
  replace p0_1 := cell_below hb p0_1 (by omega)
  have HB7 := Lib.hid (HB6.out.trans (hb.mono (by omega)))
  replace Ov := Lib.hid (Ov.out.below hb)
  replace Ov2 := Lib.hid (Ov2.out.below hb)
  replace Ox0 := Lib.hid (Ox0.out.below hb)
  replace Og := Lib.hid (Og.out.below hb)
  replace Og2 := Lib.hid (Og2.out.below hb)
  clear hb
  go_wp2_with fail
  refine (intfns.eq_same _ _ r1 _ _ _ Og2.out.reads Ov2.out.reads (by omega)).mono ?_
  rintro e w8 ⟨rfl, hb⟩
  have s8 : w7.heap.size ≤ w8.heap.size := hb.size
  have n8_0 : w.heap.size < w8.heap.size := by omega
  have n8_1 : w4.heap.size < w8.heap.size := by omega
  replace x0_0 := cell_below hb x0_0 (by omega)
  replace x0_1 := cell_below hb x0_1 (by omega)
  replace p0_0 := cell_below hb p0_0 (by omega)
  replace p0_1 := cell_below hb p0_1 (by omega)
  have HB8 := Lib.hid (HB7.out.trans (hb.mono (by omega)))
  replace Ov := Lib.hid (Ov.out.below hb)
  replace Ov2 := Lib.hid (Ov2.out.below hb)
  replace Ox0 := Lib.hid (Ox0.out.below hb)
  replace Og := Lib.hid (Og.out.below hb)
  replace Og2 := Lib.hid (Og2.out.below hb)
  clear hb
  go_wp2_with fail
  have HT1 := Lib.hid (show ∀ wa : World, (wa.cell? ⟨w.heap.size, 0, none⟩ = some (.slice a0 rows0.length c0) ∧ wa.cell? ⟨w.heap.size, 1, none⟩ = some (.slice e0 zs0.length d0) ∧ wa.cell? ⟨w4.heap.size, 0, none⟩ = some (.slice x0a rows0.length x0c) ∧ wa.cell? ⟨w4.heap.size, 1, none⟩ = some (.slice x0e zs0.length x0d) ∧ Below w8.heap.size w8 wa) → Calls Try.prog 23 #[.agg #[.slice a0 rows0.length c0, .slice e0 zs0.length d0]] wa fun e w' => ∃ p q p' q', e = .returned (.agg #[.slice p rows0.length q, .slice p' zs0.length q']) ∧ grid.Reads w' p rows0 ∧ ints.Reads .i64 w' p' zs0 ∧ (w'.cell? ⟨w.heap.size, 0, none⟩ = some (.slice a0 rows0.length c0) ∧ w'.cell? ⟨w.heap.size, 1, none⟩ = some (.slice e0 zs0.length d0) ∧ w'.cell? ⟨w4.heap.size, 0, none⟩ = some (.slice x0a rows0.length x0c) ∧ w'.cell? ⟨w4.heap.size, 1, none⟩ = some (.slice x0e zs0.length x0d) ∧ Below w8.heap.size w8 w') from fun wa hS => by
    have hz := hS.2.2.2.2.size
    refine (samplefns.to_any a0 rows0 c0 e0 zs0 d0 _ (HR0.out.below (HB8.out.trans (hS.2.2.2.2.mono (by omega)))) (HQ0.out.below (HB8.out.trans (hS.2.2.2.2.mono (by omega)))) (by omega) (by omega)).mono ?_
    rintro e w' ⟨v, l, rfl, ho, hb⟩
    obtain ⟨p, q, rfl, _, _, _⟩ := ho.grid.slice
    obtain ⟨p', q', rfl, _, _, _⟩ := ho.ints.slice
    exact ⟨p, q, p', q', rfl, ho.grid.reads, ho.ints.reads, cell_below hb hS.1 (by omega), cell_below hb hS.2.1 (by omega), cell_below hb hS.2.2.1 (by omega), cell_below hb hS.2.2.2.1 (by omega), hS.2.2.2.2.trans (hb.mono (by omega))⟩)
  have HT2 := Lib.hid (show ∀ (wa : World) (p : Option Addr) (q : Nat) (p' : Option Addr) (q' : Nat), (wa.cell? ⟨w.heap.size, 0, none⟩ = some (.slice a0 rows0.length c0) ∧ wa.cell? ⟨w.heap.size, 1, none⟩ = some (.slice e0 zs0.length d0) ∧ wa.cell? ⟨w4.heap.size, 0, none⟩ = some (.slice x0a rows0.length x0c) ∧ wa.cell? ⟨w4.heap.size, 1, none⟩ = some (.slice x0e zs0.length x0d) ∧ Below w8.heap.size w8 wa) → grid.Reads wa p rows0 → ints.Reads .i64 wa p' zs0 → Calls Try.prog 26 #[.agg #[.slice x0a rows0.length x0c, .slice x0e zs0.length x0d], .agg #[.slice p rows0.length q, .slice p' zs0.length q']] wa fun e w' => e = .returned (.bool true) ∧ (w'.cell? ⟨w.heap.size, 0, none⟩ = some (.slice a0 rows0.length c0) ∧ w'.cell? ⟨w.heap.size, 1, none⟩ = some (.slice e0 zs0.length d0) ∧ w'.cell? ⟨w4.heap.size, 0, none⟩ = some (.slice x0a rows0.length x0c) ∧ w'.cell? ⟨w4.heap.size, 1, none⟩ = some (.slice x0e zs0.length x0d) ∧ Below w8.heap.size w8 w') from fun wa p q p' q' hS k1 k2 => by
    have hz := hS.2.2.2.2.size
    have ho := Ox0.out.below hS.2.2.2.2
    refine (samplefns.eq_same _ _ rows0 _ _ _ _ zs0 _ _ _ ho.grid.reads k1 ho.ints.reads k2 (by omega) (fun s hs => by have := grid.len_le_tot rows0 s hs; omega) (by omega)).mono ?_
    rintro e w' ⟨rfl, hb⟩
    exact ⟨rfl, cell_below hb hS.1 (by omega), cell_below hb hS.2.1 (by omega), cell_below hb hS.2.2.1 (by omega), cell_below hb hS.2.2.2.1 (by omega), hS.2.2.2.2.trans (hb.mono (by omega))⟩)
  go_region_held3 (fun w' => w'.cell? ⟨w.heap.size, 0, none⟩ = some (.slice a0 rows0.length c0) ∧ w'.cell? ⟨w.heap.size, 1, none⟩ = some (.slice e0 zs0.length d0) ∧ w'.cell? ⟨w4.heap.size, 0, none⟩ = some (.slice x0a rows0.length x0c) ∧ w'.cell? ⟨w4.heap.size, 1, none⟩ = some (.slice x0e zs0.length x0d) ∧ Below w8.heap.size w8 w') (first | assumption | exact ⟨x0_0, x0_1, p0_0, p0_1, Below.refl _ _⟩ | exact ⟨x0_0, x0_1, p0_0, p0_1, (Below.refl _ _).drew⟩) (first | (go_at_call 23; refine Calls.mono (HT1.out _ ?_) ?_; assumption; rintro e w' ⟨p, q, p', q', rfl, k1, k2, hbx⟩) | (go_at_call 26; refine Calls.mono (HT2.out _ _ _ _ _ ?_ ?_ ?_) ?_; assumption; assumption; assumption; rintro e w9 ⟨rfl, hbx⟩))
  obtain ⟨_, _, _, _, hb⟩ := hbx
  have s9 : w8.heap.size ≤ w9.heap.size := hb.size
  have n9_0 : w.heap.size < w9.heap.size := by omega
  have n9_1 : w4.heap.size < w9.heap.size := by omega
  replace x0_0 := cell_below hb x0_0 (by omega)
  replace x0_1 := cell_below hb x0_1 (by omega)
  replace p0_0 := cell_below hb p0_0 (by omega)
  replace p0_1 := cell_below hb p0_1 (by omega)
  have HB9 := Lib.hid (HB8.out.trans (hb.mono (by omega)))
  replace Ov := Lib.hid (Ov.out.below hb)
  replace Ov2 := Lib.hid (Ov2.out.below hb)
  replace Ox0 := Lib.hid (Ox0.out.below hb)
  replace Og := Lib.hid (Og.out.below hb)
  replace Og2 := Lib.hid (Og2.out.below hb)
  clear hb
  clear HT1 HT2
  go_wp2_with fail
  refine (samplefns.mark_any (w3.heap.size) (w4.heap.size) _ _ rows0 _ _ zs0 (1) _ Ox0.out (by omega) (by omega)).mono ?_
  rintro e w10 ⟨rfl, ho, hb⟩
  have s10 : w9.heap.size ≤ w10.heap.size := hb.size
  have n10_0 : w.heap.size < w10.heap.size := by omega
  have n10_1 : w4.heap.size < w10.heap.size := by omega
  replace x0_0 := hb.cell x0_0 (by omega) (by omega)
  replace x0_1 := hb.cell x0_1 (by omega) (by omega)
  replace p0_0 := hb.cell p0_0 (by omega) (by omega)
  replace p0_1 := hb.cell p0_1 (by omega) (by omega)
  have HB10 := Lib.hid (HB9.out.trans ((hb.below (by omega)).mono (by omega)))
  replace Ov := Lib.hid (Ov.out.only hb (by omega))
  replace Ov2 := Lib.hid (Ov2.out.only hb (by omega))
  replace Og := Lib.hid (Og.out.only hb (by omega))
  replace Og2 := Lib.hid (Og2.out.only hb (by omega))
  clear hb
  replace Ox0 := Lib.hid ho
  clear ho
  go_wp2_with fail
  refine (planesfns.eq_same _ _ r0 _ _ _ Og.out.reads Ov.out.reads (by omega) (fun s hs => by have := planesfns.len_le_totJ r0 s hs; omega)).mono ?_
  rintro e w11 ⟨rfl, hb⟩
  have s11 : w10.heap.size ≤ w11.heap.size := hb.size
  have n11_0 : w.heap.size < w11.heap.size := by omega
  have n11_1 : w4.heap.size < w11.heap.size := by omega
  replace x0_0 := cell_below hb x0_0 (by omega)
  replace x0_1 := cell_below hb x0_1 (by omega)
  replace p0_0 := cell_below hb p0_0 (by omega)
  replace p0_1 := cell_below hb p0_1 (by omega)
  have HB11 := Lib.hid (HB10.out.trans (hb.mono (by omega)))
  replace Ov := Lib.hid (Ov.out.below hb)
  replace Ov2 := Lib.hid (Ov2.out.below hb)
  replace Ox0 := Lib.hid (Ox0.out.below hb)
  replace Og := Lib.hid (Og.out.below hb)
  replace Og2 := Lib.hid (Og2.out.below hb)
  clear hb
  go_wp2_with fail
  refine (intfns.eq_same _ _ r1 _ _ _ Og2.out.reads Ov2.out.reads (by omega)).mono ?_
  rintro e w12 ⟨rfl, hb⟩
  have s12 : w11.heap.size ≤ w12.heap.size := hb.size
  have n12_0 : w.heap.size < w12.heap.size := by omega
  have n12_1 : w4.heap.size < w12.heap.size := by omega
  replace x0_0 := cell_below hb x0_0 (by omega)
  replace x0_1 := cell_below hb x0_1 (by omega)
  replace p0_0 := cell_below hb p0_0 (by omega)
  replace p0_1 := cell_below hb p0_1 (by omega)
  have HB12 := Lib.hid (HB11.out.trans (hb.mono (by omega)))
  replace Ov := Lib.hid (Ov.out.below hb)
  replace Ov2 := Lib.hid (Ov2.out.below hb)
  replace Ox0 := Lib.hid (Ox0.out.below hb)
  replace Og := Lib.hid (Og.out.below hb)
  replace Og2 := Lib.hid (Og2.out.below hb)
  clear hb
  go_wp2_with fail
  clear Ox0
  refine (markk.mark_two ghg (w5.heap.size) (w6.heap.size) csg _ _ r0 (1) _ Og.out AVg.out (by omega) (by omega) (by omega)).mono ?_
  rintro e w13 ⟨rfl, ho, hb, hk⟩
  replace Og2 := Lib.hid (Og2.out.block (w' := w13) (fun g hg => by rw [HGg.out] at hg; cases hg; exact hk))
  clear hk
  have s13 : w12.heap.size ≤ w13.heap.size := hb.size
  have n13_0 : w.heap.size < w13.heap.size := by omega
  have n13_1 : w4.heap.size < w13.heap.size := by omega
  replace x0_0 := hb.cell x0_0 (by omega) (by omega)
  replace x0_1 := hb.cell x0_1 (by omega) (by omega)
  replace p0_0 := hb.cell p0_0 (by omega) (by omega)
  replace p0_1 := hb.cell p0_1 (by omega) (by omega)
  have HB13 := Lib.hid (HB12.out.trans ((hb.below (by omega)).mono (by omega)))
  replace Ov := Lib.hid (Ov.out.only hb (by omega))
  replace Ov2 := Lib.hid (Ov2.out.only hb (by omega))
  clear hb
  replace Og := Lib.hid ho
  clear ho
  go_wp2_with fail
  refine (intfns.mark_any (ghg) (ghg + 1) _ _ r1 (1 + planesfns.totJ r0 + r0.length) _ Og2.out (by omega)).mono ?_
  rintro e w14 ⟨rfl, ho, hg⟩
  have hb : Only (ghg) (ghg + 1) w13 w14 := Only.of_grown (hg _ rfl) fun g hg => ⟨(Og2.out.lt hg).1, (Og2.out.lt hg).2.1⟩
  clear hg
  replace Og := Lib.hid (OwnK.shift Og.out hb (by rw [planesfns.markJ_length]; exact AVg.out) (Nat.le_refl _))
  have s14 : w13.heap.size ≤ w14.heap.size := hb.size
  have n14_0 : w.heap.size < w14.heap.size := by omega
  have n14_1 : w4.heap.size < w14.heap.size := by omega
  replace x0_0 := hb.cell x0_0 (by omega) (by omega)
  replace x0_1 := hb.cell x0_1 (by omega) (by omega)
  replace p0_0 := hb.cell p0_0 (by omega) (by omega)
  replace p0_1 := hb.cell p0_1 (by omega) (by omega)
  have HB14 := Lib.hid (HB13.out.trans ((hb.below (by omega)).mono (by omega)))
  replace Ov := Lib.hid (Ov.out.only hb (by omega))
  replace Ov2 := Lib.hid (Ov2.out.only hb (by omega))
  clear hb
  replace Og2 := Lib.hid ho
  clear ho
  go_wp2_with fail
  refine (planesfns.held_any _ _ r0 (1) _ Og.out.reads (by omega) (by omega)).mono ?_
  rintro e w15 ⟨rfl, hb⟩
  have s15 : w14.heap.size ≤ w15.heap.size := hb.size
  have n15_0 : w.heap.size < w15.heap.size := by omega
  have n15_1 : w4.heap.size < w15.heap.size := by omega
  replace x0_0 := cell_below hb x0_0 (by omega)
  replace x0_1 := cell_below hb x0_1 (by omega)
  replace p0_0 := cell_below hb p0_0 (by omega)
  replace p0_1 := cell_below hb p0_1 (by omega)
  have HB15 := Lib.hid (HB14.out.trans (hb.mono (by omega)))
  replace Ov := Lib.hid (Ov.out.below hb)
  replace Ov2 := Lib.hid (Ov2.out.below hb)
  replace Og := Lib.hid (Og.out.below hb)
  replace Og2 := Lib.hid (Og2.out.below hb)
  clear hb
  go_wp2_with fail
  refine (intfns.held_any _ _ r1.length (1 + planesfns.totJ r0 + r0.length) _ Og2.out.reads (by omega)).mono ?_
  rintro e w16 ⟨rfl, hb⟩
  have s16 : w15.heap.size ≤ w16.heap.size := hb.size
  have n16_0 : w.heap.size < w16.heap.size := by omega
  have n16_1 : w4.heap.size < w16.heap.size := by omega
  replace x0_0 := cell_below hb x0_0 (by omega)
  replace x0_1 := cell_below hb x0_1 (by omega)
  replace p0_0 := cell_below hb p0_0 (by omega)
  replace p0_1 := cell_below hb p0_1 (by omega)
  have HB16 := Lib.hid (HB15.out.trans (hb.mono (by omega)))
  replace Ov := Lib.hid (Ov.out.below hb)
  replace Ov2 := Lib.hid (Ov2.out.below hb)
  replace Og := Lib.hid (Og.out.below hb)
  replace Og2 := Lib.hid (Og2.out.below hb)
  clear hb
  go_wp2_with fail
  refine (samplefns.to_any a0 rows0 c0 e0 zs0 d0 _ (HR0.out.below HB16.out) (HQ0.out.below HB16.out) (by omega) (by omega)).mono ?_
  rintro e w17 ⟨v, l, rfl, ho, hb⟩
  obtain ⟨h0a, h0c, rfl, _, _, _⟩ := ho.grid.slice
  obtain ⟨h0e, h0d, rfl, _, _, _⟩ := ho.ints.slice
  have s17 : w16.heap.size ≤ w17.heap.size := hb.size
  have n17_0 : w.heap.size < w17.heap.size := by omega
  have n17_1 : w4.heap.size < w17.heap.size := by omega
  replace x0_0 := cell_below hb x0_0 (by omega)
  replace x0_1 := cell_below hb x0_1 (by omega)
  replace p0_0 := cell_below hb p0_0 (by omega)
  replace p0_1 := cell_below hb p0_1 (by omega)
  have HB17 := Lib.hid (HB16.out.trans (hb.mono (by omega)))
  replace Ov := Lib.hid (Ov.out.below hb)
  replace Ov2 := Lib.hid (Ov2.out.below hb)
  replace Og := Lib.hid (Og.out.below hb)
  replace Og2 := Lib.hid (Og2.out.below hb)
  clear hb
  have Oh0 := Lib.hid ho
  clear ho
  go_wp2_with fail
  refine (HImpl.out _ _ _ _ _ Oh0.out.grid.reads Oh0.out.ints.reads).mono ?_
  rintro e w18 ⟨v, u, rfl, ⟨ghh, csh, hgh, ho2, ho, hav⟩, hb⟩
  obtain ⟨ha, hc, rfl⟩ := ho.slice
  obtain ⟨he, hd, rfl, _, _, _⟩ := ho2.slice
  have hgbh := ho2.lt hgh
  have ho2 := ho2.narrow (lo' := ghh) (hi' := ghh + 1) (fun g hg => by rw [hgh] at hg; cases hg; omega)
  have HGh := Lib.hid hgh
  have AVh := Lib.hid hav
  clear hgh hav
  have s18 : w17.heap.size ≤ w18.heap.size := hb.size
  have n18_0 : w.heap.size < w18.heap.size := by omega
  have n18_1 : w4.heap.size < w18.heap.size := by omega
  replace x0_0 := cell_below hb x0_0 (by omega)
  replace x0_1 := cell_below hb x0_1 (by omega)
  replace p0_0 := cell_below hb p0_0 (by omega)
  replace p0_1 := cell_below hb p0_1 (by omega)
  have HB18 := Lib.hid (HB17.out.trans (hb.mono (by omega)))
  replace Ov := Lib.hid (Ov.out.below hb)
  replace Ov2 := Lib.hid (Ov2.out.below hb)
  replace Og := Lib.hid (Og.out.below hb)
  replace Og2 := Lib.hid (Og2.out.below hb)
  replace Oh0 := Lib.hid (Oh0.out.below hb)
  clear hb
  have Oh := Lib.hid ho
  have Oh2 := Lib.hid ho2
  clear ho ho2
  clear Oh0
  go_wp2_with fail
  refine (planesfns.eq_same _ _ r0 _ _ _ Oh.out.reads Ov.out.reads (by omega) (fun s hs => by have := planesfns.len_le_totJ r0 s hs; omega)).mono ?_
  rintro e w19 ⟨rfl, hb⟩
  have s19 : w18.heap.size ≤ w19.heap.size := hb.size
  have n19_0 : w.heap.size < w19.heap.size := by omega
  have n19_1 : w4.heap.size < w19.heap.size := by omega
  replace x0_0 := cell_below hb x0_0 (by omega)
  replace x0_1 := cell_below hb x0_1 (by omega)
  replace p0_0 := cell_below hb p0_0 (by omega)
  replace p0_1 := cell_below hb p0_1 (by omega)
  have HB19 := Lib.hid (HB18.out.trans (hb.mono (by omega)))
  replace Ov := Lib.hid (Ov.out.below hb)
  replace Ov2 := Lib.hid (Ov2.out.below hb)
  replace Og := Lib.hid (Og.out.below hb)
  replace Og2 := Lib.hid (Og2.out.below hb)
  replace Oh := Lib.hid (Oh.out.below hb)
  replace Oh2 := Lib.hid (Oh2.out.below hb)
  clear hb
  go_wp2_with fail
  refine (intfns.eq_same _ _ r1 _ _ _ Oh2.out.reads Ov2.out.reads (by omega)).mono ?_
  rintro e w20 ⟨rfl, hb⟩
  have s20 : w19.heap.size ≤ w20.heap.size := hb.size
  have n20_0 : w.heap.size < w20.heap.size := by omega
  have n20_1 : w4.heap.size < w20.heap.size := by omega
  replace x0_0 := cell_below hb x0_0 (by omega)
  replace x0_1 := cell_below hb x0_1 (by omega)
  replace p0_0 := cell_below hb p0_0 (by omega)
  replace p0_1 := cell_below hb p0_1 (by omega)
  have HB20 := Lib.hid (HB19.out.trans (hb.mono (by omega)))
  replace Ov := Lib.hid (Ov.out.below hb)
  replace Ov2 := Lib.hid (Ov2.out.below hb)
  replace Og := Lib.hid (Og.out.below hb)
  replace Og2 := Lib.hid (Og2.out.below hb)
  replace Oh := Lib.hid (Oh.out.below hb)
  replace Oh2 := Lib.hid (Oh2.out.below hb)
  clear hb
  go_wp2_with fail
  refine (planesfns.held_any _ _ r0 (1) _ Og.out.reads (by omega) (by omega)).mono ?_
  rintro e w21 ⟨rfl, hb⟩
  have s21 : w20.heap.size ≤ w21.heap.size := hb.size
  have n21_0 : w.heap.size < w21.heap.size := by omega
  have n21_1 : w4.heap.size < w21.heap.size := by omega
  replace x0_0 := cell_below hb x0_0 (by omega)
  replace x0_1 := cell_below hb x0_1 (by omega)
  replace p0_0 := cell_below hb p0_0 (by omega)
  replace p0_1 := cell_below hb p0_1 (by omega)
  have HB21 := Lib.hid (HB20.out.trans (hb.mono (by omega)))
  replace Ov := Lib.hid (Ov.out.below hb)
  replace Ov2 := Lib.hid (Ov2.out.below hb)
  replace Og := Lib.hid (Og.out.below hb)
  replace Og2 := Lib.hid (Og2.out.below hb)
  replace Oh := Lib.hid (Oh.out.below hb)
  replace Oh2 := Lib.hid (Oh2.out.below hb)
  clear hb
  go_wp2_with fail
  refine (intfns.held_any _ _ r1.length (1 + planesfns.totJ r0 + r0.length) _ Og2.out.reads (by omega)).mono ?_
  rintro e w22 ⟨rfl, hb⟩
  have s22 : w21.heap.size ≤ w22.heap.size := hb.size
  have n22_0 : w.heap.size < w22.heap.size := by omega
  have n22_1 : w4.heap.size < w22.heap.size := by omega
  replace x0_0 := cell_below hb x0_0 (by omega)
  replace x0_1 := cell_below hb x0_1 (by omega)
  replace p0_0 := cell_below hb p0_0 (by omega)
  replace p0_1 := cell_below hb p0_1 (by omega)
  have HB22 := Lib.hid (HB21.out.trans (hb.mono (by omega)))
  replace Ov := Lib.hid (Ov.out.below hb)
  replace Ov2 := Lib.hid (Ov2.out.below hb)
  replace Og := Lib.hid (Og.out.below hb)
  replace Og2 := Lib.hid (Og2.out.below hb)
  replace Oh := Lib.hid (Oh.out.below hb)
  replace Oh2 := Lib.hid (Oh2.out.below hb)
  clear hb
  go_wp2_with fail
  go_ret
  exact ⟨rfl, HB22.out⟩
end Go.Proofs.Ythohnnobahcdpaa.fnExactBoostRoundsw
