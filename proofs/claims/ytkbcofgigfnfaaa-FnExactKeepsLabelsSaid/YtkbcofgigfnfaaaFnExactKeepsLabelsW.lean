/- The walk of FnExactKeepsLabels, from what the model's function and the program's return. -/
import Derived.Test.YtkbcofgigfnfaaaSampleFns
import Derived.Test.YtkbcofgigfnfaaaIntFns
import Derived.Test.YtkbcofgigfnfaaaOwnG
import Derived.Deep.RegionHeld3
namespace Go.Proofs.Ytkbcofgigfnfaaa.fnExactKeepsLabelsw
open Go.RowKit own
set_option linter.unusedVariables false
set_option linter.unusedSimpArgs false

set_option maxHeartbeats 1000000 in
theorem exit_len1 (a0 : Option Addr) (rows0 : List (List Int)) (c0 : Nat) (e0 : Option Addr) (zs0 : List Int) (d0 : Nat) (a1 : Option Addr) (zs1 : List Int) (c1 : Nat) (w : World) (hr0 : grid.Reads w a0 rows0) (hq0 : ints.Reads .i64 w e0 zs0) (hr1 : ints.Reads .i64 w a1 zs1) (hl0 : rows0.length ≤ 9223372036854775807) (hm0 : ∀ s ∈ rows0, s.length ≤ 9223372036854775807) (hk0 : zs0.length ≤ 9223372036854775807) (hl1 : zs1.length ≤ 9223372036854775807)  (h1 : 1048576 < zs1.length) : Calls Try.prog 6 #[.agg #[.slice a0 rows0.length c0, .slice e0 zs0.length d0], .slice a1 zs1.length c1] w fun e w' => e = .returned (.bool true) ∧ Below w.heap.size w w' := by
  have HR0 := Lib.hid hr0
  have HQ0 := Lib.hid hq0
  have HR1 := Lib.hid hr1
  clear hr0 hq0 hr1
  clear hm0
  go_enter Try.func6, Try.ntmps6
  go_wp2_with fail
  go_ret
  exact ⟨rfl, by first | exact Below.refl _ _ | exact (Below.refl _ _).alloc (Nat.le_refl _) _ | exact ((Below.refl _ _).alloc (Nat.le_refl _) _).alloc (by simp) _ | exact (((Below.refl _ _).alloc (Nat.le_refl _) _).alloc (by simp) _).alloc (by simp; omega) _⟩

set_option maxHeartbeats 1000000 in
theorem exit_sz0 (a0 : Option Addr) (rows0 : List (List Int)) (c0 : Nat) (e0 : Option Addr) (zs0 : List Int) (d0 : Nat) (a1 : Option Addr) (zs1 : List Int) (c1 : Nat) (w : World) (hr0 : grid.Reads w a0 rows0) (hq0 : ints.Reads .i64 w e0 zs0) (hr1 : ints.Reads .i64 w a1 zs1) (hl0 : rows0.length ≤ 9223372036854775807) (hm0 : ∀ s ∈ rows0, s.length ≤ 9223372036854775807) (hk0 : zs0.length ≤ 9223372036854775807) (hl1 : zs1.length ≤ 9223372036854775807) (h1 : zs1.length ≤ 1048576) (hx : 1048576 < (rows0.length : Int) + (grid.tot rows0 : Int) + (zs0.length : Int)) : Calls Try.prog 6 #[.agg #[.slice a0 rows0.length c0, .slice e0 zs0.length d0], .slice a1 zs1.length c1] w fun e w' => e = .returned (.bool true) ∧ Below w.heap.size w w' := by
  have HR0 := Lib.hid hr0
  have HQ0 := Lib.hid hq0
  have HR1 := Lib.hid hr1
  clear hr0 hq0 hr1
  have HM0 := Lib.hid hm0
  clear hm0
  go_enter Try.func6, Try.ntmps6
  go_wp2_with fail
  have x0_0 : (w.alloc (.cells #[.slice a0 rows0.length c0, .slice e0 zs0.length d0] 25)).cell? ⟨w.heap.size, 0, none⟩ = some (.slice a0 rows0.length c0) := cell_new _ _ _ (by simp) rfl
  have x0_1 : (w.alloc (.cells #[.slice a0 rows0.length c0, .slice e0 zs0.length d0] 25)).cell? ⟨w.heap.size, 1, none⟩ = some (.slice e0 zs0.length d0) := cell_new _ _ _ (by simp) rfl
  have HB0 := Lib.hid (below_alloc w (.cells #[.slice a0 rows0.length c0, .slice e0 zs0.length d0] 25))
  have s0_0 := size_alloc' w (.cells #[.slice a0 rows0.length c0, .slice e0 zs0.length d0] 25)
  have s0 : w.heap.size + 1 ≤ (w.alloc (.cells #[.slice a0 rows0.length c0, .slice e0 zs0.length d0] 25)).heap.size := by simp
  clear s0_0
  generalize hw : (w.alloc (.cells #[.slice a0 rows0.length c0, .slice e0 zs0.length d0] 25)) = w0 at *
  clear hw
  refine (samplefns.sz_no _ rows0 _ _ _ _ _ _ (HR0.out.below HB0.out) (by omega) HM0.out (by omega) (by omega) (by omega) (by omega)).mono ?_
  rintro e w1 ⟨rfl, hb⟩
  have s1 : w0.heap.size ≤ w1.heap.size := hb.size
  have n1_0 : w.heap.size < w1.heap.size := by omega
  replace x0_0 := cell_below hb x0_0 (by omega)
  replace x0_1 := cell_below hb x0_1 (by omega)
  have HB1 := Lib.hid (HB0.out.trans (hb.mono (by omega)))
  clear hb
  go_wp2_with fail
  go_ret
  exact ⟨rfl, HB1.out⟩

theorem law_big (a0 : Option Addr) (rows0 : List (List Int)) (c0 : Nat) (e0 : Option Addr) (zs0 : List Int) (d0 : Nat) (a1 : Option Addr) (zs1 : List Int) (c1 : Nat) (w : World) (hr0 : grid.Reads w a0 rows0) (hq0 : ints.Reads .i64 w e0 zs0) (hr1 : ints.Reads .i64 w a1 zs1) (hl0 : rows0.length ≤ 9223372036854775807) (hm0 : ∀ s ∈ rows0, s.length ≤ 9223372036854775807) (hk0 : zs0.length ≤ 9223372036854775807) (hl1 : zs1.length ≤ 9223372036854775807) (hx : ¬ (zs1.length ≤ 1048576 ∧ (rows0.length : Int) + (grid.tot rows0 : Int) + (zs0.length : Int) ≤ 1048576)) : Calls Try.prog 6 #[.agg #[.slice a0 rows0.length c0, .slice e0 zs0.length d0], .slice a1 zs1.length c1] w fun e w' => e = .returned (.bool true) ∧ Below w.heap.size w w' := by
  by_cases g1 : 1048576 < zs1.length
  · exact exit_len1 a0 rows0 c0 e0 zs0 d0 a1 zs1 c1 w hr0 hq0 hr1 hl0 hm0 hk0 hl1  g1
  by_cases k0 : 1048576 < (rows0.length : Int) + (grid.tot rows0 : Int) + (zs0.length : Int)
  · exact exit_sz0 a0 rows0 c0 e0 zs0 d0 a1 zs1 c1 w hr0 hq0 hr1 hl0 hm0 hk0 hl1 (by omega)  k0
  · exact absurd (by refine ⟨?_, ?_⟩ <;> omega) hx

set_option maxRecDepth 100000 in
set_option maxHeartbeats 4000000 in
theorem law_small (a0 : Option Addr) (rows0 : List (List Int)) (c0 : Nat) (e0 : Option Addr) (zs0 : List Int) (d0 : Nat) (a1 : Option Addr) (zs1 : List Int) (c1 : Nat) (r0 : Bool) (ok : Bool) (w : World) (hr0 : grid.Reads w a0 rows0) (hq0 : ints.Reads .i64 w e0 zs0) (hr1 : ints.Reads .i64 w a1 zs1) (h0 : zs1.length ≤ 1048576) (h1 : (rows0.length : Int) + (grid.tot rows0 : Int) + (zs0.length : Int) ≤ 1048576) 
    (HSpec : Hid (∀ (a0 : Option Addr) (c0 : Nat) (e0 : Option Addr) (d0 : Nat) (a1 : Option Addr) (c1 : Nat) (w : World), grid.Reads w a0 rows0 → ints.Reads .i64 w e0 zs0 → ints.Reads .i64 w a1 zs1 → Calls Try.prog 29 #[.agg #[.slice a0 rows0.length c0, .slice e0 zs0.length d0], .slice a1 zs1.length c1] w (RetBB r0 ok w)))
    (HImpl : Hid (∀ (a0 : Option Addr) (c0 : Nat) (e0 : Option Addr) (d0 : Nat) (a1 : Option Addr) (c1 : Nat) (w : World), grid.Reads w a0 rows0 → ints.Reads .i64 w e0 zs0 → ints.Reads .i64 w a1 zs1 → Calls Try.prog 30 #[.agg #[.slice a0 rows0.length c0, .slice e0 zs0.length d0], .slice a1 zs1.length c1] w (RetBB r0 ok w))) :
    Calls Try.prog 6 #[.agg #[.slice a0 rows0.length c0, .slice e0 zs0.length d0], .slice a1 zs1.length c1] w fun e w' => e = .returned (.bool true) ∧ Below w.heap.size w w' := by
  have HR0 := Lib.hid hr0
  have HQ0 := Lib.hid hq0
  have HR1 := Lib.hid hr1
  clear hr0 hq0 hr1
  go_enter Try.func6, Try.ntmps6
  go_wp2_with fail
  have x0_0 : (w.alloc (.cells #[.slice a0 rows0.length c0, .slice e0 zs0.length d0] 25)).cell? ⟨w.heap.size, 0, none⟩ = some (.slice a0 rows0.length c0) := cell_new _ _ _ (by simp) rfl
  have x0_1 : (w.alloc (.cells #[.slice a0 rows0.length c0, .slice e0 zs0.length d0] 25)).cell? ⟨w.heap.size, 1, none⟩ = some (.slice e0 zs0.length d0) := cell_new _ _ _ (by simp) rfl
  have HB0 := Lib.hid (below_alloc w (.cells #[.slice a0 rows0.length c0, .slice e0 zs0.length d0] 25))
  have s0_0 := size_alloc' w (.cells #[.slice a0 rows0.length c0, .slice e0 zs0.length d0] 25)
  have s0 : w.heap.size + 1 ≤ (w.alloc (.cells #[.slice a0 rows0.length c0, .slice e0 zs0.length d0] 25)).heap.size := by simp
  clear s0_0
  generalize hw : (w.alloc (.cells #[.slice a0 rows0.length c0, .slice e0 zs0.length d0] 25)) = w0 at *
  clear hw
  refine (samplefns.sz_yes _ rows0 _ _ _ _ _ _ (HR0.out.below HB0.out) (by omega) (by omega)).mono ?_
  rintro e w1 ⟨rfl, hb⟩
  have s1 : w0.heap.size ≤ w1.heap.size := hb.size
  have n1_0 : w.heap.size < w1.heap.size := by omega
  replace x0_0 := cell_below hb x0_0 (by omega)
  replace x0_1 := cell_below hb x0_1 (by omega)
  have HB1 := Lib.hid (HB0.out.trans (hb.mono (by omega)))
  clear hb
  go_wp2_with fail
  refine (samplefns.to_any a0 rows0 c0 e0 zs0 d0 _ (HR0.out.below HB1.out) (HQ0.out.below HB1.out) (by omega) (by omega)).mono ?_
  rintro e w2 ⟨v, l, rfl, ho, hb⟩
  obtain ⟨s0a, s0c, rfl, _, _, _⟩ := ho.grid.slice
  obtain ⟨s0e, s0d, rfl, _, _, _⟩ := ho.ints.slice
  have s2 : w1.heap.size ≤ w2.heap.size := hb.size
  have n2_0 : w.heap.size < w2.heap.size := by omega
  replace x0_0 := cell_below hb x0_0 (by omega)
  replace x0_1 := cell_below hb x0_1 (by omega)
  have HB2 := Lib.hid (HB1.out.trans (hb.mono (by omega)))
  clear hb
  have Os0 := Lib.hid ho
  clear ho
  go_wp2_with fail
  refine (intfns.to_any a1 zs1 c1 _ (HR1.out.below HB2.out) (by omega)).mono ?_
  rintro e w3 ⟨v, rfl, ho, hb⟩
  obtain ⟨s1a, s1c, rfl, _, _, _⟩ := ho.slice
  have s3 : w2.heap.size ≤ w3.heap.size := hb.size
  have n3_0 : w.heap.size < w3.heap.size := by omega
  replace x0_0 := cell_below hb x0_0 (by omega)
  replace x0_1 := cell_below hb x0_1 (by omega)
  have HB3 := Lib.hid (HB2.out.trans (hb.mono (by omega)))
  replace Os0 := Lib.hid (Os0.out.below hb)
  clear hb
  have Os1 := Lib.hid ho
  clear ho
  go_wp2_with fail
  refine (HSpec.out _ _ _ _ _ _ _ Os0.out.grid.reads Os0.out.ints.reads Os1.out.reads).mono ?_
  rintro e w4 ⟨rfl, hb⟩
  have s4 : w3.heap.size ≤ w4.heap.size := hb.size
  have n4_0 : w.heap.size < w4.heap.size := by omega
  replace x0_0 := cell_below hb x0_0 (by omega)
  replace x0_1 := cell_below hb x0_1 (by omega)
  have HB4 := Lib.hid (HB3.out.trans (hb.mono (by omega)))
  replace Os0 := Lib.hid (Os0.out.below hb)
  replace Os1 := Lib.hid (Os1.out.below hb)
  clear hb
  clear Os0
  clear Os1
  go_wp2_with fail
  refine (samplefns.to_any a0 rows0 c0 e0 zs0 d0 _ (HR0.out.below HB4.out) (HQ0.out.below HB4.out) (by omega) (by omega)).mono ?_
  rintro e w5 ⟨v, l, rfl, ho, hb⟩
  obtain ⟨x0a, x0c, rfl, _, _, _⟩ := ho.grid.slice
  obtain ⟨x0e, x0d, rfl, _, _, _⟩ := ho.ints.slice
  have s5 : w4.heap.size ≤ w5.heap.size := hb.size
  have n5_0 : w.heap.size < w5.heap.size := by omega
  replace x0_0 := cell_below hb x0_0 (by omega)
  replace x0_1 := cell_below hb x0_1 (by omega)
  have HB5 := Lib.hid (HB4.out.trans (hb.mono (by omega)))
  clear hb
  have Ox0 := Lib.hid ho
  clear ho
  go_wp2_with fail
  have p0_0 : (w5.alloc (.cells #[.slice x0a rows0.length x0c, .slice x0e zs0.length x0d] 29)).cell? ⟨w5.heap.size, 0, none⟩ = some (.slice x0a rows0.length x0c) := cell_new _ _ _ rfl rfl
  have p0_1 : (w5.alloc (.cells #[.slice x0a rows0.length x0c, .slice x0e zs0.length x0d] 29)).cell? ⟨w5.heap.size, 1, none⟩ = some (.slice x0e zs0.length x0d) := cell_new _ _ _ rfl rfl
  have hb := below_alloc w5 (.cells #[.slice x0a rows0.length x0c, .slice x0e zs0.length x0d] 29)
  have z6 := size_alloc' w5 (.cells #[.slice x0a rows0.length x0c, .slice x0e zs0.length x0d] 29)
  generalize hw : w5.alloc (.cells #[.slice x0a rows0.length x0c, .slice x0e zs0.length x0d] 29) = w6 at *
  clear hw
  have s6 : w5.heap.size ≤ w6.heap.size := hb.size
  have n6_0 : w.heap.size < w6.heap.size := by omega
  replace x0_0 := cell_below hb x0_0 (by omega)
  replace x0_1 := cell_below hb x0_1 (by omega)
  have HB6 := Lib.hid (HB5.out.trans (hb.mono (by omega)))
  replace Ox0 := Lib.hid (Ox0.out.below hb)
  clear hb
  refine (intfns.to_any a1 zs1 c1 _ (HR1.out.below HB6.out) (by omega)).mono ?_
  rintro e w7 ⟨v, rfl, ho, hb⟩
  obtain ⟨x1a, x1c, rfl, _, _, _⟩ := ho.slice
  have s7 : w6.heap.size ≤ w7.heap.size := hb.size
  have n7_0 : w.heap.size < w7.heap.size := by omega
  have n7_1 : w5.heap.size < w7.heap.size := by omega
  replace x0_0 := cell_below hb x0_0 (by omega)
  replace x0_1 := cell_below hb x0_1 (by omega)
  replace p0_0 := cell_below hb p0_0 (by omega)
  replace p0_1 := cell_below hb p0_1 (by omega)
  have HB7 := Lib.hid (HB6.out.trans (hb.mono (by omega)))
  replace Ox0 := Lib.hid (Ox0.out.below hb)
  clear hb
  have Ox1 := Lib.hid ho
  clear ho
  go_wp2_with fail
  refine (HImpl.out _ _ _ _ _ _ _ Ox0.out.grid.reads Ox0.out.ints.reads Ox1.out.reads).mono ?_
  rintro e w8 ⟨rfl, hb⟩
  have s8 : w7.heap.size ≤ w8.heap.size := hb.size
  have n8_0 : w.heap.size < w8.heap.size := by omega
  have n8_1 : w5.heap.size < w8.heap.size := by omega
  replace x0_0 := cell_below hb x0_0 (by omega)
  replace x0_1 := cell_below hb x0_1 (by omega)
  replace p0_0 := cell_below hb p0_0 (by omega)
  replace p0_1 := cell_below hb p0_1 (by omega)
  have HB8 := Lib.hid (HB7.out.trans (hb.mono (by omega)))
  replace Ox0 := Lib.hid (Ox0.out.below hb)
  replace Ox1 := Lib.hid (Ox1.out.below hb)
  clear hb
  go_wp2_with fail
  have HT1 := Lib.hid (show ∀ wa : World, (wa.cell? ⟨w.heap.size, 0, none⟩ = some (.slice a0 rows0.length c0) ∧ wa.cell? ⟨w.heap.size, 1, none⟩ = some (.slice e0 zs0.length d0) ∧ wa.cell? ⟨w5.heap.size, 0, none⟩ = some (.slice x0a rows0.length x0c) ∧ wa.cell? ⟨w5.heap.size, 1, none⟩ = some (.slice x0e zs0.length x0d) ∧ Below w8.heap.size w8 wa) → Calls Try.prog 17 #[.agg #[.slice a0 rows0.length c0, .slice e0 zs0.length d0]] wa fun e w' => ∃ p q p' q', e = .returned (.agg #[.slice p rows0.length q, .slice p' zs0.length q']) ∧ grid.Reads w' p rows0 ∧ ints.Reads .i64 w' p' zs0 ∧ (w'.cell? ⟨w.heap.size, 0, none⟩ = some (.slice a0 rows0.length c0) ∧ w'.cell? ⟨w.heap.size, 1, none⟩ = some (.slice e0 zs0.length d0) ∧ w'.cell? ⟨w5.heap.size, 0, none⟩ = some (.slice x0a rows0.length x0c) ∧ w'.cell? ⟨w5.heap.size, 1, none⟩ = some (.slice x0e zs0.length x0d) ∧ Below w8.heap.size w8 w') from fun wa hS => by
    have hz := hS.2.2.2.2.size
    refine (samplefns.to_any a0 rows0 c0 e0 zs0 d0 _ (HR0.out.below (HB8.out.trans (hS.2.2.2.2.mono (by omega)))) (HQ0.out.below (HB8.out.trans (hS.2.2.2.2.mono (by omega)))) (by omega) (by omega)).mono ?_
    rintro e w' ⟨v, l, rfl, ho, hb⟩
    obtain ⟨p, q, rfl, _, _, _⟩ := ho.grid.slice
    obtain ⟨p', q', rfl, _, _, _⟩ := ho.ints.slice
    exact ⟨p, q, p', q', rfl, ho.grid.reads, ho.ints.reads, cell_below hb hS.1 (by omega), cell_below hb hS.2.1 (by omega), cell_below hb hS.2.2.1 (by omega), cell_below hb hS.2.2.2.1 (by omega), hS.2.2.2.2.trans (hb.mono (by omega))⟩)
  have HT2 := Lib.hid (show ∀ (wa : World) (p : Option Addr) (q : Nat) (p' : Option Addr) (q' : Nat), (wa.cell? ⟨w.heap.size, 0, none⟩ = some (.slice a0 rows0.length c0) ∧ wa.cell? ⟨w.heap.size, 1, none⟩ = some (.slice e0 zs0.length d0) ∧ wa.cell? ⟨w5.heap.size, 0, none⟩ = some (.slice x0a rows0.length x0c) ∧ wa.cell? ⟨w5.heap.size, 1, none⟩ = some (.slice x0e zs0.length x0d) ∧ Below w8.heap.size w8 wa) → grid.Reads wa p rows0 → ints.Reads .i64 wa p' zs0 → Calls Try.prog 21 #[.agg #[.slice x0a rows0.length x0c, .slice x0e zs0.length x0d], .agg #[.slice p rows0.length q, .slice p' zs0.length q']] wa fun e w' => e = .returned (.bool true) ∧ (w'.cell? ⟨w.heap.size, 0, none⟩ = some (.slice a0 rows0.length c0) ∧ w'.cell? ⟨w.heap.size, 1, none⟩ = some (.slice e0 zs0.length d0) ∧ w'.cell? ⟨w5.heap.size, 0, none⟩ = some (.slice x0a rows0.length x0c) ∧ w'.cell? ⟨w5.heap.size, 1, none⟩ = some (.slice x0e zs0.length x0d) ∧ Below w8.heap.size w8 w') from fun wa p q p' q' hS k1 k2 => by
    have hz := hS.2.2.2.2.size
    have ho := Ox0.out.below hS.2.2.2.2
    refine (samplefns.eq_same _ _ rows0 _ _ _ _ zs0 _ _ _ ho.grid.reads k1 ho.ints.reads k2 (by omega) (fun s hs => by have := grid.len_le_tot rows0 s hs; omega) (by omega)).mono ?_
    rintro e w' ⟨rfl, hb⟩
    exact ⟨rfl, cell_below hb hS.1 (by omega), cell_below hb hS.2.1 (by omega), cell_below hb hS.2.2.1 (by omega), cell_below hb hS.2.2.2.1 (by omega), hS.2.2.2.2.trans (hb.mono (by omega))⟩)
  go_region_held3 (fun w' => w'.cell? ⟨w.heap.size, 0, none⟩ = some (.slice a0 rows0.length c0) ∧ w'.cell? ⟨w.heap.size, 1, none⟩ = some (.slice e0 zs0.length d0) ∧ w'.cell? ⟨w5.heap.size, 0, none⟩ = some (.slice x0a rows0.length x0c) ∧ w'.cell? ⟨w5.heap.size, 1, none⟩ = some (.slice x0e zs0.length x0d) ∧ Below w8.heap.size w8 w') (first | assumption | exact ⟨x0_0, x0_1, p0_0, p0_1, Below.refl _ _⟩ | exact ⟨x0_0, x0_1, p0_0, p0_1, (Below.refl _ _).drew⟩) (first | (go_at_call 17; refine Calls.mono (HT1.out _ ?_) ?_; assumption; rintro e w' ⟨p, q, p', q', rfl, k1, k2, hbx⟩) | (go_at_call 21; refine Calls.mono (HT2.out _ _ _ _ _ ?_ ?_ ?_) ?_; assumption; assumption; assumption; rintro e w9 ⟨rfl, hbx⟩))
  obtain ⟨_, _, _, _, hb⟩ := hbx
  have s9 : w8.heap.size ≤ w9.heap.size := hb.size
  have n9_0 : w.heap.size < w9.heap.size := by omega
  have n9_1 : w5.heap.size < w9.heap.size := by omega
  replace x0_0 := cell_below hb x0_0 (by omega)
  replace x0_1 := cell_below hb x0_1 (by omega)
  replace p0_0 := cell_below hb p0_0 (by omega)
  replace p0_1 := cell_below hb p0_1 (by omega)
  have HB9 := Lib.hid (HB8.out.trans (hb.mono (by omega)))
  replace Ox0 := Lib.hid (Ox0.out.below hb)
  replace Ox1 := Lib.hid (Ox1.out.below hb)
  clear hb
  clear HT1 HT2
  go_wp2_with fail
  refine (intfns.to_any a1 zs1 c1 _ (HR1.out.below HB9.out) (by omega)).mono ?_
  rintro e w10 ⟨v, rfl, ho, hb⟩
  obtain ⟨q1a, q1c, rfl, _, _, _⟩ := ho.slice
  have s10 : w9.heap.size ≤ w10.heap.size := hb.size
  have n10_0 : w.heap.size < w10.heap.size := by omega
  have n10_1 : w5.heap.size < w10.heap.size := by omega
  replace x0_0 := cell_below hb x0_0 (by omega)
  replace x0_1 := cell_below hb x0_1 (by omega)
  replace p0_0 := cell_below hb p0_0 (by omega)
  replace p0_1 := cell_below hb p0_1 (by omega)
  have HB10 := Lib.hid (HB9.out.trans (hb.mono (by omega)))
  replace Ox0 := Lib.hid (Ox0.out.below hb)
  replace Ox1 := Lib.hid (Ox1.out.below hb)
  clear hb
  have Oq1 := Lib.hid ho
  clear ho
  go_wp2_with fail
  refine (intfns.eq_same _ _ zs1 _ _ _ Ox1.out.reads Oq1.out.reads (by omega)).mono ?_
  rintro e w11 ⟨rfl, hb⟩
  have s11 : w10.heap.size ≤ w11.heap.size := hb.size
  have n11_0 : w.heap.size < w11.heap.size := by omega
  have n11_1 : w5.heap.size < w11.heap.size := by omega
  replace x0_0 := cell_below hb x0_0 (by omega)
  replace x0_1 := cell_below hb x0_1 (by omega)
  replace p0_0 := cell_below hb p0_0 (by omega)
  replace p0_1 := cell_below hb p0_1 (by omega)
  have HB11 := Lib.hid (HB10.out.trans (hb.mono (by omega)))
  replace Ox0 := Lib.hid (Ox0.out.below hb)
  replace Ox1 := Lib.hid (Ox1.out.below hb)
  replace Oq1 := Lib.hid (Oq1.out.below hb)
  clear hb
  clear Oq1
  go_wp2_with fail
  go_ret
  exact ⟨rfl, HB11.out⟩
end Go.Proofs.Ytkbcofgigfnfaaa.fnExactKeepsLabelsw
