/- The walk of FnExactWeightedMistakes, from what the model's function and the program's return. -/
import Derived.Test.YthohnnobahcdpaaSampleFns
import Derived.Test.YthohnnobahcdpaaPlaneFns
import Derived.Test.YthohnnobahcdpaaIntFns
import Derived.Test.YthohnnobahcdpaaOwnG
import Derived.Deep.RegionHeld3
namespace Go.Proofs.Ythohnnobahcdpaa.fnExactWeightedMistakesw
open Go.RowKit own
set_option linter.unusedVariables false
set_option linter.unusedSimpArgs false

set_option maxHeartbeats 1000000 in
theorem exit_len1 (a0 : Option Addr) (rows0 : List (List Int)) (c0 : Nat) (e0 : Option Addr) (zs0 : List Int) (d0 : Nat) (a1 : Option Addr) (zs1 : List Int) (c1 : Nat) (a2 : Option Addr) (zs2 : List Int) (c2 : Nat) (b2 : Int) (w : World) (hr0 : grid.Reads w a0 rows0) (hq0 : ints.Reads .i64 w e0 zs0) (hr1 : ints.Reads .i64 w a1 zs1) (hr2 : ints.Reads .i64 w a2 zs2) (hl0 : rows0.length ≤ 9223372036854775807) (hm0 : ∀ s ∈ rows0, s.length ≤ 9223372036854775807) (hk0 : zs0.length ≤ 9223372036854775807) (hl1 : zs1.length ≤ 9223372036854775807) (hl2 : zs2.length ≤ 9223372036854775807)  (h1 : 1048576 < zs1.length) : Calls Try.prog 5 #[.agg #[.slice a0 rows0.length c0, .slice e0 zs0.length d0], .slice a1 zs1.length c1, .agg #[.slice a2 zs2.length c2, .int .i64 b2]] w fun e w' => e = .returned (.bool true) ∧ Below w.heap.size w w' := by
  have HR0 := Lib.hid hr0
  have HQ0 := Lib.hid hq0
  have HR1 := Lib.hid hr1
  have HR2 := Lib.hid hr2
  clear hr0 hq0 hr1 hr2
  clear hm0
  go_enter Try.func5, Try.ntmps5
  go_wp2_with fail
  go_ret
  exact ⟨rfl, by first | exact Below.refl _ _ | exact (Below.refl _ _).alloc (Nat.le_refl _) _ | exact ((Below.refl _ _).alloc (Nat.le_refl _) _).alloc (by simp) _⟩

set_option maxHeartbeats 1000000 in
theorem exit_sz0 (a0 : Option Addr) (rows0 : List (List Int)) (c0 : Nat) (e0 : Option Addr) (zs0 : List Int) (d0 : Nat) (a1 : Option Addr) (zs1 : List Int) (c1 : Nat) (a2 : Option Addr) (zs2 : List Int) (c2 : Nat) (b2 : Int) (w : World) (hr0 : grid.Reads w a0 rows0) (hq0 : ints.Reads .i64 w e0 zs0) (hr1 : ints.Reads .i64 w a1 zs1) (hr2 : ints.Reads .i64 w a2 zs2) (hl0 : rows0.length ≤ 9223372036854775807) (hm0 : ∀ s ∈ rows0, s.length ≤ 9223372036854775807) (hk0 : zs0.length ≤ 9223372036854775807) (hl1 : zs1.length ≤ 9223372036854775807) (hl2 : zs2.length ≤ 9223372036854775807) (h1 : zs1.length ≤ 1048576) (hx : 1048576 < (rows0.length : Int) + (grid.tot rows0 : Int) + (zs0.length : Int)) : Calls Try.prog 5 #[.agg #[.slice a0 rows0.length c0, .slice e0 zs0.length d0], .slice a1 zs1.length c1, .agg #[.slice a2 zs2.length c2, .int .i64 b2]] w fun e w' => e = .returned (.bool true) ∧ Below w.heap.size w w' := by
  have HR0 := Lib.hid hr0
  have HQ0 := Lib.hid hq0
  have HR1 := Lib.hid hr1
  have HR2 := Lib.hid hr2
  clear hr0 hq0 hr1 hr2
  have HM0 := Lib.hid hm0
  clear hm0
  go_enter Try.func5, Try.ntmps5
  go_wp2_with fail
  have x0_0 : (w.alloc (.cells #[.slice a0 rows0.length c0, .slice e0 zs0.length d0] 33)).cell? ⟨w.heap.size, 0, none⟩ = some (.slice a0 rows0.length c0) := cell_new _ _ _ (by simp) rfl
  have x0_1 : (w.alloc (.cells #[.slice a0 rows0.length c0, .slice e0 zs0.length d0] 33)).cell? ⟨w.heap.size, 1, none⟩ = some (.slice e0 zs0.length d0) := cell_new _ _ _ (by simp) rfl
  have HB0 := Lib.hid (below_alloc w (.cells #[.slice a0 rows0.length c0, .slice e0 zs0.length d0] 33))
  have s0_0 := size_alloc' w (.cells #[.slice a0 rows0.length c0, .slice e0 zs0.length d0] 33)
  replace x0_0 := cell_old (.cells #[.slice a2 zs2.length c2, .int .i64 b2] 24) x0_0
  replace x0_1 := cell_old (.cells #[.slice a2 zs2.length c2, .int .i64 b2] 24) x0_1
  have x2_0 : ((w.alloc (.cells #[.slice a0 rows0.length c0, .slice e0 zs0.length d0] 33)).alloc (.cells #[.slice a2 zs2.length c2, .int .i64 b2] 24)).cell? ⟨w.heap.size + 1, 0, none⟩ = some (.slice a2 zs2.length c2) := cell_new _ _ _ (by simp) rfl
  have x2_1 : ((w.alloc (.cells #[.slice a0 rows0.length c0, .slice e0 zs0.length d0] 33)).alloc (.cells #[.slice a2 zs2.length c2, .int .i64 b2] 24)).cell? ⟨w.heap.size + 1, 1, none⟩ = some (.int .i64 b2) := cell_new _ _ _ (by simp) rfl
  replace HB0 := Lib.hid (HB0.out.alloc (by simp) (.cells #[.slice a2 zs2.length c2, .int .i64 b2] 24))
  have s0 : w.heap.size + 2 ≤ ((w.alloc (.cells #[.slice a0 rows0.length c0, .slice e0 zs0.length d0] 33)).alloc (.cells #[.slice a2 zs2.length c2, .int .i64 b2] 24)).heap.size := by simp
  clear s0_0
  generalize hw : ((w.alloc (.cells #[.slice a0 rows0.length c0, .slice e0 zs0.length d0] 33)).alloc (.cells #[.slice a2 zs2.length c2, .int .i64 b2] 24)) = w0 at *
  clear hw
  refine (samplefns.sz_no _ rows0 _ _ _ _ _ _ (HR0.out.below HB0.out) (by omega) HM0.out (by omega) (by omega) (by omega) (by omega)).mono ?_
  rintro e w1 ⟨rfl, hb⟩
  have s1 : w0.heap.size ≤ w1.heap.size := hb.size
  have n1_0 : w.heap.size < w1.heap.size := by omega
  have n1_1 : w.heap.size + 1 < w1.heap.size := by omega
  replace x0_0 := cell_below hb x0_0 (by omega)
  replace x0_1 := cell_below hb x0_1 (by omega)
  replace x2_0 := cell_below hb x2_0 (by omega)
  replace x2_1 := cell_below hb x2_1 (by omega)
  have HB1 := Lib.hid (HB0.out.trans (hb.mono (by omega)))
  clear hb
  go_wp2_with fail
  go_ret
  exact ⟨rfl, HB1.out⟩

set_option maxHeartbeats 1000000 in
theorem exit_sz2 (a0 : Option Addr) (rows0 : List (List Int)) (c0 : Nat) (e0 : Option Addr) (zs0 : List Int) (d0 : Nat) (a1 : Option Addr) (zs1 : List Int) (c1 : Nat) (a2 : Option Addr) (zs2 : List Int) (c2 : Nat) (b2 : Int) (w : World) (hr0 : grid.Reads w a0 rows0) (hq0 : ints.Reads .i64 w e0 zs0) (hr1 : ints.Reads .i64 w a1 zs1) (hr2 : ints.Reads .i64 w a2 zs2) (hl0 : rows0.length ≤ 9223372036854775807) (hm0 : ∀ s ∈ rows0, s.length ≤ 9223372036854775807) (hk0 : zs0.length ≤ 9223372036854775807) (hl1 : zs1.length ≤ 9223372036854775807) (hl2 : zs2.length ≤ 9223372036854775807) (h1 : zs1.length ≤ 1048576) (hb : (rows0.length : Int) + (grid.tot rows0 : Int) + (zs0.length : Int) ≤ 1048576) (hx : 1048576 < (rows0.length : Int) + (grid.tot rows0 : Int) + (zs0.length : Int) + (zs2.length : Int)) : Calls Try.prog 5 #[.agg #[.slice a0 rows0.length c0, .slice e0 zs0.length d0], .slice a1 zs1.length c1, .agg #[.slice a2 zs2.length c2, .int .i64 b2]] w fun e w' => e = .returned (.bool true) ∧ Below w.heap.size w w' := by
  have HR0 := Lib.hid hr0
  have HQ0 := Lib.hid hq0
  have HR1 := Lib.hid hr1
  have HR2 := Lib.hid hr2
  clear hr0 hq0 hr1 hr2
  have HM0 := Lib.hid hm0
  clear hm0
  go_enter Try.func5, Try.ntmps5
  go_wp2_with fail
  have x0_0 : (w.alloc (.cells #[.slice a0 rows0.length c0, .slice e0 zs0.length d0] 33)).cell? ⟨w.heap.size, 0, none⟩ = some (.slice a0 rows0.length c0) := cell_new _ _ _ (by simp) rfl
  have x0_1 : (w.alloc (.cells #[.slice a0 rows0.length c0, .slice e0 zs0.length d0] 33)).cell? ⟨w.heap.size, 1, none⟩ = some (.slice e0 zs0.length d0) := cell_new _ _ _ (by simp) rfl
  have HB0 := Lib.hid (below_alloc w (.cells #[.slice a0 rows0.length c0, .slice e0 zs0.length d0] 33))
  have s0_0 := size_alloc' w (.cells #[.slice a0 rows0.length c0, .slice e0 zs0.length d0] 33)
  replace x0_0 := cell_old (.cells #[.slice a2 zs2.length c2, .int .i64 b2] 24) x0_0
  replace x0_1 := cell_old (.cells #[.slice a2 zs2.length c2, .int .i64 b2] 24) x0_1
  have x2_0 : ((w.alloc (.cells #[.slice a0 rows0.length c0, .slice e0 zs0.length d0] 33)).alloc (.cells #[.slice a2 zs2.length c2, .int .i64 b2] 24)).cell? ⟨w.heap.size + 1, 0, none⟩ = some (.slice a2 zs2.length c2) := cell_new _ _ _ (by simp) rfl
  have x2_1 : ((w.alloc (.cells #[.slice a0 rows0.length c0, .slice e0 zs0.length d0] 33)).alloc (.cells #[.slice a2 zs2.length c2, .int .i64 b2] 24)).cell? ⟨w.heap.size + 1, 1, none⟩ = some (.int .i64 b2) := cell_new _ _ _ (by simp) rfl
  replace HB0 := Lib.hid (HB0.out.alloc (by simp) (.cells #[.slice a2 zs2.length c2, .int .i64 b2] 24))
  have s0 : w.heap.size + 2 ≤ ((w.alloc (.cells #[.slice a0 rows0.length c0, .slice e0 zs0.length d0] 33)).alloc (.cells #[.slice a2 zs2.length c2, .int .i64 b2] 24)).heap.size := by simp
  clear s0_0
  generalize hw : ((w.alloc (.cells #[.slice a0 rows0.length c0, .slice e0 zs0.length d0] 33)).alloc (.cells #[.slice a2 zs2.length c2, .int .i64 b2] 24)) = w0 at *
  clear hw
  refine (samplefns.sz_yes _ rows0 _ _ _ _ _ _ (HR0.out.below HB0.out) (by omega) (by omega)).mono ?_
  rintro e w1 ⟨rfl, hb⟩
  have s1 : w0.heap.size ≤ w1.heap.size := hb.size
  have n1_0 : w.heap.size < w1.heap.size := by omega
  have n1_1 : w.heap.size + 1 < w1.heap.size := by omega
  replace x0_0 := cell_below hb x0_0 (by omega)
  replace x0_1 := cell_below hb x0_1 (by omega)
  replace x2_0 := cell_below hb x2_0 (by omega)
  replace x2_1 := cell_below hb x2_1 (by omega)
  have HB1 := Lib.hid (HB0.out.trans (hb.mono (by omega)))
  clear hb
  go_wp2_with fail
  refine (planefns.sz_no _ _ _ _ _ _ (by omega) (by omega) (by omega) (by omega)).mono ?_
  rintro e w2 ⟨rfl, hb⟩
  have s2 : w1.heap.size ≤ w2.heap.size := hb.size
  have n2_0 : w.heap.size < w2.heap.size := by omega
  have n2_1 : w.heap.size + 1 < w2.heap.size := by omega
  replace x0_0 := cell_below hb x0_0 (by omega)
  replace x0_1 := cell_below hb x0_1 (by omega)
  replace x2_0 := cell_below hb x2_0 (by omega)
  replace x2_1 := cell_below hb x2_1 (by omega)
  have HB2 := Lib.hid (HB1.out.trans (hb.mono (by omega)))
  clear hb
  go_wp2_with fail
  go_ret
  exact ⟨rfl, HB2.out⟩

theorem law_big (a0 : Option Addr) (rows0 : List (List Int)) (c0 : Nat) (e0 : Option Addr) (zs0 : List Int) (d0 : Nat) (a1 : Option Addr) (zs1 : List Int) (c1 : Nat) (a2 : Option Addr) (zs2 : List Int) (c2 : Nat) (b2 : Int) (w : World) (hr0 : grid.Reads w a0 rows0) (hq0 : ints.Reads .i64 w e0 zs0) (hr1 : ints.Reads .i64 w a1 zs1) (hr2 : ints.Reads .i64 w a2 zs2) (hl0 : rows0.length ≤ 9223372036854775807) (hm0 : ∀ s ∈ rows0, s.length ≤ 9223372036854775807) (hk0 : zs0.length ≤ 9223372036854775807) (hl1 : zs1.length ≤ 9223372036854775807) (hl2 : zs2.length ≤ 9223372036854775807) (hx : ¬ (zs1.length ≤ 1048576 ∧ (rows0.length : Int) + (grid.tot rows0 : Int) + (zs0.length : Int) + (zs2.length : Int) ≤ 1048576)) : Calls Try.prog 5 #[.agg #[.slice a0 rows0.length c0, .slice e0 zs0.length d0], .slice a1 zs1.length c1, .agg #[.slice a2 zs2.length c2, .int .i64 b2]] w fun e w' => e = .returned (.bool true) ∧ Below w.heap.size w w' := by
  by_cases g1 : 1048576 < zs1.length
  · exact exit_len1 a0 rows0 c0 e0 zs0 d0 a1 zs1 c1 a2 zs2 c2 b2 w hr0 hq0 hr1 hr2 hl0 hm0 hk0 hl1 hl2  g1
  by_cases k0 : 1048576 < (rows0.length : Int) + (grid.tot rows0 : Int) + (zs0.length : Int)
  · exact exit_sz0 a0 rows0 c0 e0 zs0 d0 a1 zs1 c1 a2 zs2 c2 b2 w hr0 hq0 hr1 hr2 hl0 hm0 hk0 hl1 hl2 (by omega)  k0
  by_cases k2 : 1048576 < (rows0.length : Int) + (grid.tot rows0 : Int) + (zs0.length : Int) + (zs2.length : Int)
  · exact exit_sz2 a0 rows0 c0 e0 zs0 d0 a1 zs1 c1 a2 zs2 c2 b2 w hr0 hq0 hr1 hr2 hl0 hm0 hk0 hl1 hl2 (by omega) (by omega) k2
  · exact absurd (by refine ⟨?_, ?_⟩ <;> omega) hx

set_option maxRecDepth 100000 in
set_option maxHeartbeats 4000000 in
theorem law_small (a0 : Option Addr) (rows0 : List (List Int)) (c0 : Nat) (e0 : Option Addr) (zs0 : List Int) (d0 : Nat) (a1 : Option Addr) (zs1 : List Int) (c1 : Nat) (a2 : Option Addr) (zs2 : List Int) (c2 : Nat) (b2 : Int) (r0 : Int) (ok : Bool) (w : World) (hr0 : grid.Reads w a0 rows0) (hq0 : ints.Reads .i64 w e0 zs0) (hr1 : ints.Reads .i64 w a1 zs1) (hr2 : ints.Reads .i64 w a2 zs2) (h0 : zs1.length ≤ 1048576) (h1 : (rows0.length : Int) + (grid.tot rows0 : Int) + (zs0.length : Int) + (zs2.length : Int) ≤ 1048576) 
    (HSpec : Hid (∀ (a0 : Option Addr) (c0 : Nat) (e0 : Option Addr) (d0 : Nat) (a1 : Option Addr) (c1 : Nat) (a2 : Option Addr) (c2 : Nat) (w : World), grid.Reads w a0 rows0 → ints.Reads .i64 w e0 zs0 → ints.Reads .i64 w a1 zs1 → ints.Reads .i64 w a2 zs2 → Calls Try.prog 30 #[.agg #[.slice a0 rows0.length c0, .slice e0 zs0.length d0], .slice a1 zs1.length c1, .agg #[.slice a2 zs2.length c2, .int .i64 b2]] w (RetNB r0 ok w)))
    (HImpl : Hid (∀ (a0 : Option Addr) (c0 : Nat) (e0 : Option Addr) (d0 : Nat) (a1 : Option Addr) (c1 : Nat) (a2 : Option Addr) (c2 : Nat) (w : World), grid.Reads w a0 rows0 → ints.Reads .i64 w e0 zs0 → ints.Reads .i64 w a1 zs1 → ints.Reads .i64 w a2 zs2 → Calls Try.prog 32 #[.agg #[.slice a0 rows0.length c0, .slice e0 zs0.length d0], .slice a1 zs1.length c1, .agg #[.slice a2 zs2.length c2, .int .i64 b2]] w (RetNB r0 ok w))) :
    Calls Try.prog 5 #[.agg #[.slice a0 rows0.length c0, .slice e0 zs0.length d0], .slice a1 zs1.length c1, .agg #[.slice a2 zs2.length c2, .int .i64 b2]] w fun e w' => e = .returned (.bool true) ∧ Below w.heap.size w w' := by
  have HR0 := Lib.hid hr0
  have HQ0 := Lib.hid hq0
  have HR1 := Lib.hid hr1
  have HR2 := Lib.hid hr2
  clear hr0 hq0 hr1 hr2
  go_enter Try.func5, Try.ntmps5
  go_wp2_with fail
  have x0_0 : (w.alloc (.cells #[.slice a0 rows0.length c0, .slice e0 zs0.length d0] 33)).cell? ⟨w.heap.size, 0, none⟩ = some (.slice a0 rows0.length c0) := cell_new _ _ _ (by simp) rfl
  have x0_1 : (w.alloc (.cells #[.slice a0 rows0.length c0, .slice e0 zs0.length d0] 33)).cell? ⟨w.heap.size, 1, none⟩ = some (.slice e0 zs0.length d0) := cell_new _ _ _ (by simp) rfl
  have HB0 := Lib.hid (below_alloc w (.cells #[.slice a0 rows0.length c0, .slice e0 zs0.length d0] 33))
  have s0_0 := size_alloc' w (.cells #[.slice a0 rows0.length c0, .slice e0 zs0.length d0] 33)
  replace x0_0 := cell_old (.cells #[.slice a2 zs2.length c2, .int .i64 b2] 24) x0_0
  replace x0_1 := cell_old (.cells #[.slice a2 zs2.length c2, .int .i64 b2] 24) x0_1
  have x2_0 : ((w.alloc (.cells #[.slice a0 rows0.length c0, .slice e0 zs0.length d0] 33)).alloc (.cells #[.slice a2 zs2.length c2, .int .i64 b2] 24)).cell? ⟨w.heap.size + 1, 0, none⟩ = some (.slice a2 zs2.length c2) := cell_new _ _ _ (by simp) rfl
  have x2_1 : ((w.alloc (.cells #[.slice a0 rows0.length c0, .slice e0 zs0.length d0] 33)).alloc (.cells #[.slice a2 zs2.length c2, .int .i64 b2] 24)).cell? ⟨w.heap.size + 1, 1, none⟩ = some (.int .i64 b2) := cell_new _ _ _ (by simp) rfl
  replace HB0 := Lib.hid (HB0.out.alloc (by simp) (.cells #[.slice a2 zs2.length c2, .int .i64 b2] 24))
  have s0 : w.heap.size + 2 ≤ ((w.alloc (.cells #[.slice a0 rows0.length c0, .slice e0 zs0.length d0] 33)).alloc (.cells #[.slice a2 zs2.length c2, .int .i64 b2] 24)).heap.size := by simp
  clear s0_0
  generalize hw : ((w.alloc (.cells #[.slice a0 rows0.length c0, .slice e0 zs0.length d0] 33)).alloc (.cells #[.slice a2 zs2.length c2, .int .i64 b2] 24)) = w0 at *
  clear hw
  refine (samplefns.sz_yes _ rows0 _ _ _ _ _ _ (HR0.out.below HB0.out) (by omega) (by omega)).mono ?_
  rintro e w1 ⟨rfl, hb⟩
  have s1 : w0.heap.size ≤ w1.heap.size := hb.size
  have n1_0 : w.heap.size < w1.heap.size := by omega
  have n1_1 : w.heap.size + 1 < w1.heap.size := by omega
  replace x0_0 := cell_below hb x0_0 (by omega)
  replace x0_1 := cell_below hb x0_1 (by omega)
  replace x2_0 := cell_below hb x2_0 (by omega)
  replace x2_1 := cell_below hb x2_1 (by omega)
  have HB1 := Lib.hid (HB0.out.trans (hb.mono (by omega)))
  clear hb
  go_wp2_with fail
  refine (planefns.sz_yes _ _ _ _ _ _ (by omega) (by omega)).mono ?_
  rintro e w2 ⟨rfl, hb⟩
  have s2 : w1.heap.size ≤ w2.heap.size := hb.size
  have n2_0 : w.heap.size < w2.heap.size := by omega
  have n2_1 : w.heap.size + 1 < w2.heap.size := by omega
  replace x0_0 := cell_below hb x0_0 (by omega)
  replace x0_1 := cell_below hb x0_1 (by omega)
  replace x2_0 := cell_below hb x2_0 (by omega)
  replace x2_1 := cell_below hb x2_1 (by omega)
  have HB2 := Lib.hid (HB1.out.trans (hb.mono (by omega)))
  clear hb
  go_wp2_with fail
  have HT1 := Lib.hid (show ∀ (wa : World) , (wa.cell? ⟨w.heap.size, 0, none⟩ = some (.slice a0 rows0.length c0) ∧ wa.cell? ⟨w.heap.size, 1, none⟩ = some (.slice e0 zs0.length d0) ∧ wa.cell? ⟨w.heap.size + 1, 0, none⟩ = some (.slice a2 zs2.length c2) ∧ wa.cell? ⟨w.heap.size + 1, 1, none⟩ = some (.int .i64 b2) ∧ Below w2.heap.size w2 wa) → Calls Try.prog 23 #[.agg #[.slice a0 rows0.length c0, .slice e0 zs0.length d0]] wa fun e w' => ∃ p0 q0 u0 t0, e = .returned (.agg #[.slice p0 rows0.length q0, .slice u0 zs0.length t0]) ∧ grid.Reads w' p0 rows0 ∧ ints.Reads .i64 w' u0 zs0 ∧ w'.cell? ⟨w.heap.size, 0, none⟩ = some (.slice a0 rows0.length c0) ∧ w'.cell? ⟨w.heap.size, 1, none⟩ = some (.slice e0 zs0.length d0) ∧ w'.cell? ⟨w.heap.size + 1, 0, none⟩ = some (.slice a2 zs2.length c2) ∧ w'.cell? ⟨w.heap.size + 1, 1, none⟩ = some (.int .i64 b2) ∧ Below w2.heap.size w2 w' from fun wa  hS  => by
    have hz := hS.2.2.2.2.size
    refine (samplefns.to_any a0 rows0 c0 e0 zs0 d0 _ (HR0.out.below (HB2.out.trans (hS.2.2.2.2.mono (by omega)))) (HQ0.out.below (HB2.out.trans (hS.2.2.2.2.mono (by omega)))) (by omega) (by omega)).mono ?_
    rintro e w' ⟨v, l, rfl, ho, hb⟩
    obtain ⟨p0, q0, rfl, _, _, _⟩ := ho.grid.slice
    obtain ⟨u0, t0, rfl, _, _, _⟩ := ho.ints.slice
    exact ⟨p0, q0, u0, t0, rfl, ho.grid.reads, ho.ints.reads, cell_below hb hS.1 (by omega), cell_below hb hS.2.1 (by omega), cell_below hb hS.2.2.1 (by omega), cell_below hb hS.2.2.2.1 (by omega), hS.2.2.2.2.trans (hb.mono (by omega))⟩)
  have HT2 := Lib.hid (show ∀ (wa : World) (p0 : Option Addr) (u0 : Option Addr), (wa.cell? ⟨w.heap.size, 0, none⟩ = some (.slice a0 rows0.length c0) ∧ wa.cell? ⟨w.heap.size, 1, none⟩ = some (.slice e0 zs0.length d0) ∧ wa.cell? ⟨w.heap.size + 1, 0, none⟩ = some (.slice a2 zs2.length c2) ∧ wa.cell? ⟨w.heap.size + 1, 1, none⟩ = some (.int .i64 b2) ∧ Below w2.heap.size w2 wa) → grid.Reads wa p0 rows0 → ints.Reads .i64 wa u0 zs0 → Calls Try.prog 31 #[.slice a1 zs1.length c1] wa fun e w' => ∃ p1 q1, e = .returned (.slice p1 zs1.length q1) ∧ ints.Reads .i64 w' p1 zs1 ∧ grid.Reads w' p0 rows0 ∧ ints.Reads .i64 w' u0 zs0 ∧ w'.cell? ⟨w.heap.size, 0, none⟩ = some (.slice a0 rows0.length c0) ∧ w'.cell? ⟨w.heap.size, 1, none⟩ = some (.slice e0 zs0.length d0) ∧ w'.cell? ⟨w.heap.size + 1, 0, none⟩ = some (.slice a2 zs2.length c2) ∧ w'.cell? ⟨w.heap.size + 1, 1, none⟩ = some (.int .i64 b2) ∧ Below w2.heap.size w2 w' from fun wa p0 u0 hS k0 k1 => by
    have hz := hS.2.2.2.2.size
    refine (intfns.to_any a1 zs1 c1 _ (HR1.out.below (HB2.out.trans (hS.2.2.2.2.mono (by omega)))) (by omega)).mono ?_
    rintro e w' ⟨v, rfl, ho, hb⟩
    obtain ⟨p1, q1, rfl, _, hcap9, _⟩ := ho.slice
    exact ⟨p1, q1, rfl, ho.reads, k0.below hb, k1.below hb, cell_below hb hS.1 (by omega), cell_below hb hS.2.1 (by omega), cell_below hb hS.2.2.1 (by omega), cell_below hb hS.2.2.2.1 (by omega), hS.2.2.2.2.trans (hb.mono (by omega))⟩)
  have HT3 := Lib.hid (show ∀ (wa : World) (p0 : Option Addr) (u0 : Option Addr) (p1 : Option Addr), (wa.cell? ⟨w.heap.size, 0, none⟩ = some (.slice a0 rows0.length c0) ∧ wa.cell? ⟨w.heap.size, 1, none⟩ = some (.slice e0 zs0.length d0) ∧ wa.cell? ⟨w.heap.size + 1, 0, none⟩ = some (.slice a2 zs2.length c2) ∧ wa.cell? ⟨w.heap.size + 1, 1, none⟩ = some (.int .i64 b2) ∧ Below w2.heap.size w2 wa) → ints.Reads .i64 wa p1 zs1 → grid.Reads wa p0 rows0 → ints.Reads .i64 wa u0 zs0 → Calls Try.prog 18 #[.agg #[.slice a2 zs2.length c2, .int .i64 b2]] wa fun e w' => ∃ p2 q2, e = .returned (.agg #[.slice p2 zs2.length q2, .int .i64 b2]) ∧ ints.Reads .i64 w' p2 zs2 ∧ ints.Reads .i64 w' p1 zs1 ∧ grid.Reads w' p0 rows0 ∧ ints.Reads .i64 w' u0 zs0 ∧ w'.cell? ⟨w.heap.size, 0, none⟩ = some (.slice a0 rows0.length c0) ∧ w'.cell? ⟨w.heap.size, 1, none⟩ = some (.slice e0 zs0.length d0) ∧ w'.cell? ⟨w.heap.size + 1, 0, none⟩ = some (.slice a2 zs2.length c2) ∧ w'.cell? ⟨w.heap.size + 1, 1, none⟩ = some (.int .i64 b2) ∧ Below w2.heap.size w2 w' from fun wa p0 u0 p1 hS k0 k1 k2 => by
    have hz := hS.2.2.2.2.size
    refine (planefns.to_any a2 zs2 c2 b2 _ (HR2.out.below (HB2.out.trans (hS.2.2.2.2.mono (by omega)))) (by omega)).mono ?_
    rintro e w' ⟨v, rfl, ho, hb⟩
    obtain ⟨p2, q2, rfl, _, hcap9, _⟩ := ho.slice
    exact ⟨p2, q2, rfl, ho.reads, k0.below hb, k1.below hb, k2.below hb, cell_below hb hS.1 (by omega), cell_below hb hS.2.1 (by omega), cell_below hb hS.2.2.1 (by omega), cell_below hb hS.2.2.2.1 (by omega), hS.2.2.2.2.trans (hb.mono (by omega))⟩)
  have HT4 := Lib.hid (show ∀ (wa : World) (p0 : Option Addr) (q0 : Nat) (u0 : Option Addr) (t0 : Nat) (p1 : Option Addr) (q1 : Nat) (p2 : Option Addr) (q2 : Nat), (wa.cell? ⟨w.heap.size, 0, none⟩ = some (.slice a0 rows0.length c0) ∧ wa.cell? ⟨w.heap.size, 1, none⟩ = some (.slice e0 zs0.length d0) ∧ wa.cell? ⟨w.heap.size + 1, 0, none⟩ = some (.slice a2 zs2.length c2) ∧ wa.cell? ⟨w.heap.size + 1, 1, none⟩ = some (.int .i64 b2) ∧ Below w2.heap.size w2 wa) → ints.Reads .i64 wa p2 zs2 → ints.Reads .i64 wa p1 zs1 → grid.Reads wa p0 rows0 → ints.Reads .i64 wa u0 zs0 → Calls Try.prog 30 #[.agg #[.slice p0 rows0.length q0, .slice u0 zs0.length t0], .slice p1 zs1.length q1, .agg #[.slice p2 zs2.length q2, .int .i64 b2]] wa fun e w' => e = .returned (.tuple #[.int .i64 r0, .bool ok]) ∧ w'.cell? ⟨w.heap.size, 0, none⟩ = some (.slice a0 rows0.length c0) ∧ w'.cell? ⟨w.heap.size, 1, none⟩ = some (.slice e0 zs0.length d0) ∧ w'.cell? ⟨w.heap.size + 1, 0, none⟩ = some (.slice a2 zs2.length c2) ∧ w'.cell? ⟨w.heap.size + 1, 1, none⟩ = some (.int .i64 b2) ∧ Below w2.heap.size w2 w' from fun wa p0 q0 u0 t0 p1 q1 p2 q2 hS k0 k1 k2 k3 => by
    have hz := hS.2.2.2.2.size
    refine (HSpec.out _ _ _ _ _ _ _ _ _ k2 k3 k1 k0).mono ?_
    rintro e w' ⟨rfl, hb⟩
    exact ⟨rfl, cell_below hb hS.1 (by omega), cell_below hb hS.2.1 (by omega), cell_below hb hS.2.2.1 (by omega), cell_below hb hS.2.2.2.1 (by omega), hS.2.2.2.2.trans (hb.mono (by omega))⟩)
  go_region_held3 (fun w' => w'.cell? ⟨w.heap.size, 0, none⟩ = some (.slice a0 rows0.length c0) ∧ w'.cell? ⟨w.heap.size, 1, none⟩ = some (.slice e0 zs0.length d0) ∧ w'.cell? ⟨w.heap.size + 1, 0, none⟩ = some (.slice a2 zs2.length c2) ∧ w'.cell? ⟨w.heap.size + 1, 1, none⟩ = some (.int .i64 b2) ∧ Below w2.heap.size w2 w') (first | assumption | exact ⟨x0_0, x0_1, x2_0, x2_1, Below.refl _ _⟩ | exact ⟨x0_0, x0_1, x2_0, x2_1, (Below.refl _ _).drew⟩) (first | (go_at_call 23; refine Calls.mono (HT1.out _  (by assumption)) ?_; rintro e w' ⟨p0, q0, u0, t0, rfl, m1_0, m1_1, hbx⟩) | (go_at_call 31; refine Calls.mono (HT2.out _ _ _ (by assumption) (by assumption) (by assumption)) ?_; rintro e w' ⟨p1, q1, rfl, m2_0, m2_1, m2_2, hbx⟩) | (go_at_call 18; refine Calls.mono (HT3.out _ _ _ _ (by assumption) (by assumption) (by assumption) (by assumption)) ?_; rintro e w' ⟨p2, q2, rfl, m3_0, m3_1, m3_2, m3_3, hbx⟩) | (go_at_call 30; refine Calls.mono (HT4.out _ _ _ _ _ _ _ _ _ (by assumption) (by assumption) (by assumption) (by assumption) (by assumption)) ?_; rintro e w3 ⟨rfl, hbx⟩))
  obtain ⟨_, _, _, _, hb⟩ := hbx
  have s3 : w2.heap.size ≤ w3.heap.size := hb.size
  have n3_0 : w.heap.size < w3.heap.size := by omega
  have n3_1 : w.heap.size + 1 < w3.heap.size := by omega
  replace x0_0 := cell_below hb x0_0 (by omega)
  replace x0_1 := cell_below hb x0_1 (by omega)
  replace x2_0 := cell_below hb x2_0 (by omega)
  replace x2_1 := cell_below hb x2_1 (by omega)
  have HB3 := Lib.hid (HB2.out.trans (hb.mono (by omega)))
  clear hb
  clear HT1 HT2 HT3 HT4
  go_wp2_with fail
  refine (samplefns.to_any a0 rows0 c0 e0 zs0 d0 _ (HR0.out.below HB3.out) (HQ0.out.below HB3.out) (by omega) (by omega)).mono ?_
  rintro e w4 ⟨v, l, rfl, ho, hb⟩
  obtain ⟨x0a, x0c, rfl, _, _, _⟩ := ho.grid.slice
  obtain ⟨x0e, x0d, rfl, _, _, _⟩ := ho.ints.slice
  have s4 : w3.heap.size ≤ w4.heap.size := hb.size
  have n4_0 : w.heap.size < w4.heap.size := by omega
  have n4_1 : w.heap.size + 1 < w4.heap.size := by omega
  replace x0_0 := cell_below hb x0_0 (by omega)
  replace x0_1 := cell_below hb x0_1 (by omega)
  replace x2_0 := cell_below hb x2_0 (by omega)
  replace x2_1 := cell_below hb x2_1 (by omega)
  have HB4 := Lib.hid (HB3.out.trans (hb.mono (by omega)))
  clear hb
  have Ox0 := Lib.hid ho
  clear ho
  go_wp2_with fail
  have p0_0 : (w4.alloc (.cells #[.slice x0a rows0.length x0c, .slice x0e zs0.length x0d] 38)).cell? ⟨w4.heap.size, 0, none⟩ = some (.slice x0a rows0.length x0c) := cell_new _ _ _ rfl rfl
  have p0_1 : (w4.alloc (.cells #[.slice x0a rows0.length x0c, .slice x0e zs0.length x0d] 38)).cell? ⟨w4.heap.size, 1, none⟩ = some (.slice x0e zs0.length x0d) := cell_new _ _ _ rfl rfl
  have hb := below_alloc w4 (.cells #[.slice x0a rows0.length x0c, .slice x0e zs0.length x0d] 38)
  have z5 := size_alloc' w4 (.cells #[.slice x0a rows0.length x0c, .slice x0e zs0.length x0d] 38)
  generalize hw : w4.alloc (.cells #[.slice x0a rows0.length x0c, .slice x0e zs0.length x0d] 38) = w5 at *
  clear hw
  have s5 : w4.heap.size ≤ w5.heap.size := hb.size
  have n5_0 : w.heap.size < w5.heap.size := by omega
  have n5_1 : w.heap.size + 1 < w5.heap.size := by omega
  replace x0_0 := cell_below hb x0_0 (by omega)
  replace x0_1 := cell_below hb x0_1 (by omega)
  replace x2_0 := cell_below hb x2_0 (by omega)
  replace x2_1 := cell_below hb x2_1 (by omega)
  have HB5 := Lib.hid (HB4.out.trans (hb.mono (by omega)))
  replace Ox0 := Lib.hid (Ox0.out.below hb)
  clear hb
  refine (intfns.to_any a1 zs1 c1 _ (HR1.out.below HB5.out) (by omega)).mono ?_
  rintro e w6 ⟨v, rfl, ho, hb⟩
  obtain ⟨x1a, x1c, rfl, _, _, _⟩ := ho.slice
  have s6 : w5.heap.size ≤ w6.heap.size := hb.size
  have n6_0 : w.heap.size < w6.heap.size := by omega
  have n6_1 : w.heap.size + 1 < w6.heap.size := by omega
  have n6_2 : w4.heap.size < w6.heap.size := by omega
  replace x0_0 := cell_below hb x0_0 (by omega)
  replace x0_1 := cell_below hb x0_1 (by omega)
  replace x2_0 := cell_below hb x2_0 (by omega)
  replace x2_1 := cell_below hb x2_1 (by omega)
  replace p0_0 := cell_below hb p0_0 (by omega)
  replace p0_1 := cell_below hb p0_1 (by omega)
  have HB6 := Lib.hid (HB5.out.trans (hb.mono (by omega)))
  replace Ox0 := Lib.hid (Ox0.out.below hb)
  clear hb
  have Ox1 := Lib.hid ho
  clear ho
  go_wp2_with fail
  refine (planefns.to_any a2 zs2 c2 b2 _ (HR2.out.below HB6.out) (by omega)).mono ?_
  rintro e w7 ⟨v, rfl, ho, hb⟩
  obtain ⟨x2a, x2c, rfl, _, _, _⟩ := ho.slice
  have s7 : w6.heap.size ≤ w7.heap.size := hb.size
  have n7_0 : w.heap.size < w7.heap.size := by omega
  have n7_1 : w.heap.size + 1 < w7.heap.size := by omega
  have n7_2 : w4.heap.size < w7.heap.size := by omega
  replace x0_0 := cell_below hb x0_0 (by omega)
  replace x0_1 := cell_below hb x0_1 (by omega)
  replace x2_0 := cell_below hb x2_0 (by omega)
  replace x2_1 := cell_below hb x2_1 (by omega)
  replace p0_0 := cell_below hb p0_0 (by omega)
  replace p0_1 := cell_below hb p0_1 (by omega)
  have HB7 := Lib.hid (HB6.out.trans (hb.mono (by omega)))
  replace Ox0 := Lib.hid (Ox0.out.below hb)
  replace Ox1 := Lib.hid (Ox1.out.below hb)
  clear hb
  have Ox2 := Lib.hid ho
  clear ho
  go_wp2_with fail
  have p2_0 : (w7.alloc (.cells #[.slice x2a zs2.length x2c, .int .i64 b2] 27)).cell? ⟨w7.heap.size, 0, none⟩ = some (.slice x2a zs2.length x2c) := cell_new _ _ _ rfl rfl
  have p2_1 : (w7.alloc (.cells #[.slice x2a zs2.length x2c, .int .i64 b2] 27)).cell? ⟨w7.heap.size, 1, none⟩ = some (.int .i64 b2) := cell_new _ _ _ rfl rfl
  have hb := below_alloc w7 (.cells #[.slice x2a zs2.length x2c, .int .i64 b2] 27)
  have z8 := size_alloc' w7 (.cells #[.slice x2a zs2.length x2c, .int .i64 b2] 27)
  generalize hw : w7.alloc (.cells #[.slice x2a zs2.length x2c, .int .i64 b2] 27) = w8 at *
  clear hw
  have s8 : w7.heap.size ≤ w8.heap.size := hb.size
  have n8_0 : w.heap.size < w8.heap.size := by omega
  have n8_1 : w.heap.size + 1 < w8.heap.size := by omega
  have n8_2 : w4.heap.size < w8.heap.size := by omega
  replace x0_0 := cell_below hb x0_0 (by omega)
  replace x0_1 := cell_below hb x0_1 (by omega)
  replace x2_0 := cell_below hb x2_0 (by omega)
  replace x2_1 := cell_below hb x2_1 (by omega)
  replace p0_0 := cell_below hb p0_0 (by omega)
  replace p0_1 := cell_below hb p0_1 (by omega)
  have HB8 := Lib.hid (HB7.out.trans (hb.mono (by omega)))
  replace Ox0 := Lib.hid (Ox0.out.below hb)
  replace Ox1 := Lib.hid (Ox1.out.below hb)
  replace Ox2 := Lib.hid (Ox2.out.below hb)
  clear hb
  refine (HImpl.out _ _ _ _ _ _ _ _ _ Ox0.out.grid.reads Ox0.out.ints.reads Ox1.out.reads Ox2.out.reads).mono ?_
  rintro e w9 ⟨rfl, hb⟩
  have s9 : w8.heap.size ≤ w9.heap.size := hb.size
  have n9_0 : w.heap.size < w9.heap.size := by omega
  have n9_1 : w.heap.size + 1 < w9.heap.size := by omega
  have n9_2 : w4.heap.size < w9.heap.size := by omega
  have n9_3 : w7.heap.size < w9.heap.size := by omega
  replace x0_0 := cell_below hb x0_0 (by omega)
  replace x0_1 := cell_below hb x0_1 (by omega)
  replace x2_0 := cell_below hb x2_0 (by omega)
  replace x2_1 := cell_below hb x2_1 (by omega)
  replace p0_0 := cell_below hb p0_0 (by omega)
  replace p0_1 := cell_below hb p0_1 (by omega)
  replace p2_0 := cell_below hb p2_0 (by omega)
  replace p2_1 := cell_below hb p2_1 (by omega)
  have HB9 := Lib.hid (HB8.out.trans (hb.mono (by omega)))
  replace Ox0 := Lib.hid (Ox0.out.below hb)
  replace Ox1 := Lib.hid (Ox1.out.below hb)
  replace Ox2 := Lib.hid (Ox2.out.below hb)
  clear hb
  go_wp2_with fail
  have HT1 := Lib.hid (show ∀ wa : World, (wa.cell? ⟨w.heap.size, 0, none⟩ = some (.slice a0 rows0.length c0) ∧ wa.cell? ⟨w.heap.size, 1, none⟩ = some (.slice e0 zs0.length d0) ∧ wa.cell? ⟨w.heap.size + 1, 0, none⟩ = some (.slice a2 zs2.length c2) ∧ wa.cell? ⟨w.heap.size + 1, 1, none⟩ = some (.int .i64 b2) ∧ wa.cell? ⟨w4.heap.size, 0, none⟩ = some (.slice x0a rows0.length x0c) ∧ wa.cell? ⟨w4.heap.size, 1, none⟩ = some (.slice x0e zs0.length x0d) ∧ wa.cell? ⟨w7.heap.size, 0, none⟩ = some (.slice x2a zs2.length x2c) ∧ wa.cell? ⟨w7.heap.size, 1, none⟩ = some (.int .i64 b2) ∧ Below w9.heap.size w9 wa) → Calls Try.prog 23 #[.agg #[.slice a0 rows0.length c0, .slice e0 zs0.length d0]] wa fun e w' => ∃ p q p' q', e = .returned (.agg #[.slice p rows0.length q, .slice p' zs0.length q']) ∧ grid.Reads w' p rows0 ∧ ints.Reads .i64 w' p' zs0 ∧ (w'.cell? ⟨w.heap.size, 0, none⟩ = some (.slice a0 rows0.length c0) ∧ w'.cell? ⟨w.heap.size, 1, none⟩ = some (.slice e0 zs0.length d0) ∧ w'.cell? ⟨w.heap.size + 1, 0, none⟩ = some (.slice a2 zs2.length c2) ∧ w'.cell? ⟨w.heap.size + 1, 1, none⟩ = some (.int .i64 b2) ∧ w'.cell? ⟨w4.heap.size, 0, none⟩ = some (.slice x0a rows0.length x0c) ∧ w'.cell? ⟨w4.heap.size, 1, none⟩ = some (.slice x0e zs0.length x0d) ∧ w'.cell? ⟨w7.heap.size, 0, none⟩ = some (.slice x2a zs2.length x2c) ∧ w'.cell? ⟨w7.heap.size, 1, none⟩ = some (.int .i64 b2) ∧ Below w9.heap.size w9 w') from fun wa hS => by
    have hz := hS.2.2.2.2.2.2.2.2.size
    refine (samplefns.to_any a0 rows0 c0 e0 zs0 d0 _ (HR0.out.below (HB9.out.trans (hS.2.2.2.2.2.2.2.2.mono (by omega)))) (HQ0.out.below (HB9.out.trans (hS.2.2.2.2.2.2.2.2.mono (by omega)))) (by omega) (by omega)).mono ?_
    rintro e w' ⟨v, l, rfl, ho, hb⟩
    obtain ⟨p, q, rfl, _, _, _⟩ := ho.grid.slice
    obtain ⟨p', q', rfl, _, _, _⟩ := ho.ints.slice
    exact ⟨p, q, p', q', rfl, ho.grid.reads, ho.ints.reads, cell_below hb hS.1 (by omega), cell_below hb hS.2.1 (by omega), cell_below hb hS.2.2.1 (by omega), cell_below hb hS.2.2.2.1 (by omega), cell_below hb hS.2.2.2.2.1 (by omega), cell_below hb hS.2.2.2.2.2.1 (by omega), cell_below hb hS.2.2.2.2.2.2.1 (by omega), cell_below hb hS.2.2.2.2.2.2.2.1 (by omega), hS.2.2.2.2.2.2.2.2.trans (hb.mono (by omega))⟩)
  have HT2 := Lib.hid (show ∀ (wa : World) (p : Option Addr) (q : Nat) (p' : Option Addr) (q' : Nat), (wa.cell? ⟨w.heap.size, 0, none⟩ = some (.slice a0 rows0.length c0) ∧ wa.cell? ⟨w.heap.size, 1, none⟩ = some (.slice e0 zs0.length d0) ∧ wa.cell? ⟨w.heap.size + 1, 0, none⟩ = some (.slice a2 zs2.length c2) ∧ wa.cell? ⟨w.heap.size + 1, 1, none⟩ = some (.int .i64 b2) ∧ wa.cell? ⟨w4.heap.size, 0, none⟩ = some (.slice x0a rows0.length x0c) ∧ wa.cell? ⟨w4.heap.size, 1, none⟩ = some (.slice x0e zs0.length x0d) ∧ wa.cell? ⟨w7.heap.size, 0, none⟩ = some (.slice x2a zs2.length x2c) ∧ wa.cell? ⟨w7.heap.size, 1, none⟩ = some (.int .i64 b2) ∧ Below w9.heap.size w9 wa) → grid.Reads wa p rows0 → ints.Reads .i64 wa p' zs0 → Calls Try.prog 26 #[.agg #[.slice x0a rows0.length x0c, .slice x0e zs0.length x0d], .agg #[.slice p rows0.length q, .slice p' zs0.length q']] wa fun e w' => e = .returned (.bool true) ∧ (w'.cell? ⟨w.heap.size, 0, none⟩ = some (.slice a0 rows0.length c0) ∧ w'.cell? ⟨w.heap.size, 1, none⟩ = some (.slice e0 zs0.length d0) ∧ w'.cell? ⟨w.heap.size + 1, 0, none⟩ = some (.slice a2 zs2.length c2) ∧ w'.cell? ⟨w.heap.size + 1, 1, none⟩ = some (.int .i64 b2) ∧ w'.cell? ⟨w4.heap.size, 0, none⟩ = some (.slice x0a rows0.length x0c) ∧ w'.cell? ⟨w4.heap.size, 1, none⟩ = some (.slice x0e zs0.length x0d) ∧ w'.cell? ⟨w7.heap.size, 0, none⟩ = some (.slice x2a zs2.length x2c) ∧ w'.cell? ⟨w7.heap.size, 1, none⟩ = some (.int .i64 b2) ∧ Below w9.heap.size w9 w') from fun wa p q p' q' hS k1 k2 => by
    have hz := hS.2.2.2.2.2.2.2.2.size
    have ho := Ox0.out.below hS.2.2.2.2.2.2.2.2
    refine (samplefns.eq_same _ _ rows0 _ _ _ _ zs0 _ _ _ ho.grid.reads k1 ho.ints.reads k2 (by omega) (fun s hs => by have := grid.len_le_tot rows0 s hs; omega) (by omega)).mono ?_
    rintro e w' ⟨rfl, hb⟩
    exact ⟨rfl, cell_below hb hS.1 (by omega), cell_below hb hS.2.1 (by omega), cell_below hb hS.2.2.1 (by omega), cell_below hb hS.2.2.2.1 (by omega), cell_below hb hS.2.2.2.2.1 (by omega), cell_below hb hS.2.2.2.2.2.1 (by omega), cell_below hb hS.2.2.2.2.2.2.1 (by omega), cell_below hb hS.2.2.2.2.2.2.2.1 (by omega), hS.2.2.2.2.2.2.2.2.trans (hb.mono (by omega))⟩)
  go_region_held3 (fun w' => w'.cell? ⟨w.heap.size, 0, none⟩ = some (.slice a0 rows0.length c0) ∧ w'.cell? ⟨w.heap.size, 1, none⟩ = some (.slice e0 zs0.length d0) ∧ w'.cell? ⟨w.heap.size + 1, 0, none⟩ = some (.slice a2 zs2.length c2) ∧ w'.cell? ⟨w.heap.size + 1, 1, none⟩ = some (.int .i64 b2) ∧ w'.cell? ⟨w4.heap.size, 0, none⟩ = some (.slice x0a rows0.length x0c) ∧ w'.cell? ⟨w4.heap.size, 1, none⟩ = some (.slice x0e zs0.length x0d) ∧ w'.cell? ⟨w7.heap.size, 0, none⟩ = some (.slice x2a zs2.length x2c) ∧ w'.cell? ⟨w7.heap.size, 1, none⟩ = some (.int .i64 b2) ∧ Below w9.heap.size w9 w') (first | assumption | exact ⟨x0_0, x0_1, x2_0, x2_1, p0_0, p0_1, p2_0, p2_1, Below.refl _ _⟩ | exact ⟨x0_0, x0_1, x2_0, x2_1, p0_0, p0_1, p2_0, p2_1, (Below.refl _ _).drew⟩) (first | (go_at_call 23; refine Calls.mono (HT1.out _ ?_) ?_; assumption; rintro e w' ⟨p, q, p', q', rfl, k1, k2, hbx⟩) | (go_at_call 26; refine Calls.mono (HT2.out _ _ _ _ _ ?_ ?_ ?_) ?_; assumption; assumption; assumption; rintro e w10 ⟨rfl, hbx⟩))
  obtain ⟨_, _, _, _, _, _, _, _, hb⟩ := hbx
  have s10 : w9.heap.size ≤ w10.heap.size := hb.size
  have n10_0 : w.heap.size < w10.heap.size := by omega
  have n10_1 : w.heap.size + 1 < w10.heap.size := by omega
  have n10_2 : w4.heap.size < w10.heap.size := by omega
  have n10_3 : w7.heap.size < w10.heap.size := by omega
  replace x0_0 := cell_below hb x0_0 (by omega)
  replace x0_1 := cell_below hb x0_1 (by omega)
  replace x2_0 := cell_below hb x2_0 (by omega)
  replace x2_1 := cell_below hb x2_1 (by omega)
  replace p0_0 := cell_below hb p0_0 (by omega)
  replace p0_1 := cell_below hb p0_1 (by omega)
  replace p2_0 := cell_below hb p2_0 (by omega)
  replace p2_1 := cell_below hb p2_1 (by omega)
  have HB10 := Lib.hid (HB9.out.trans (hb.mono (by omega)))
  replace Ox0 := Lib.hid (Ox0.out.below hb)
  replace Ox1 := Lib.hid (Ox1.out.below hb)
  replace Ox2 := Lib.hid (Ox2.out.below hb)
  clear hb
  clear HT1 HT2
  go_wp2_with fail
  refine (intfns.to_any a1 zs1 c1 _ (HR1.out.below HB10.out) (by omega)).mono ?_
  rintro e w11 ⟨v, rfl, ho, hb⟩
  obtain ⟨q1a, q1c, rfl, _, _, _⟩ := ho.slice
  have s11 : w10.heap.size ≤ w11.heap.size := hb.size
  have n11_0 : w.heap.size < w11.heap.size := by omega
  have n11_1 : w.heap.size + 1 < w11.heap.size := by omega
  have n11_2 : w4.heap.size < w11.heap.size := by omega
  have n11_3 : w7.heap.size < w11.heap.size := by omega
  replace x0_0 := cell_below hb x0_0 (by omega)
  replace x0_1 := cell_below hb x0_1 (by omega)
  replace x2_0 := cell_below hb x2_0 (by omega)
  replace x2_1 := cell_below hb x2_1 (by omega)
  replace p0_0 := cell_below hb p0_0 (by omega)
  replace p0_1 := cell_below hb p0_1 (by omega)
  replace p2_0 := cell_below hb p2_0 (by omega)
  replace p2_1 := cell_below hb p2_1 (by omega)
  have HB11 := Lib.hid (HB10.out.trans (hb.mono (by omega)))
  replace Ox0 := Lib.hid (Ox0.out.below hb)
  replace Ox1 := Lib.hid (Ox1.out.below hb)
  replace Ox2 := Lib.hid (Ox2.out.below hb)
  clear hb
  have Oq1 := Lib.hid ho
  clear ho
  go_wp2_with fail
  refine (intfns.eq_same _ _ zs1 _ _ _ Ox1.out.reads Oq1.out.reads (by omega)).mono ?_
  rintro e w12 ⟨rfl, hb⟩
  have s12 : w11.heap.size ≤ w12.heap.size := hb.size
  have n12_0 : w.heap.size < w12.heap.size := by omega
  have n12_1 : w.heap.size + 1 < w12.heap.size := by omega
  have n12_2 : w4.heap.size < w12.heap.size := by omega
  have n12_3 : w7.heap.size < w12.heap.size := by omega
  replace x0_0 := cell_below hb x0_0 (by omega)
  replace x0_1 := cell_below hb x0_1 (by omega)
  replace x2_0 := cell_below hb x2_0 (by omega)
  replace x2_1 := cell_below hb x2_1 (by omega)
  replace p0_0 := cell_below hb p0_0 (by omega)
  replace p0_1 := cell_below hb p0_1 (by omega)
  replace p2_0 := cell_below hb p2_0 (by omega)
  replace p2_1 := cell_below hb p2_1 (by omega)
  have HB12 := Lib.hid (HB11.out.trans (hb.mono (by omega)))
  replace Ox0 := Lib.hid (Ox0.out.below hb)
  replace Ox1 := Lib.hid (Ox1.out.below hb)
  replace Ox2 := Lib.hid (Ox2.out.below hb)
  replace Oq1 := Lib.hid (Oq1.out.below hb)
  clear hb
  clear Oq1
  go_wp2_with fail
  have HT1 := Lib.hid (show ∀ wa : World, (wa.cell? ⟨w.heap.size, 0, none⟩ = some (.slice a0 rows0.length c0) ∧ wa.cell? ⟨w.heap.size, 1, none⟩ = some (.slice e0 zs0.length d0) ∧ wa.cell? ⟨w.heap.size + 1, 0, none⟩ = some (.slice a2 zs2.length c2) ∧ wa.cell? ⟨w.heap.size + 1, 1, none⟩ = some (.int .i64 b2) ∧ wa.cell? ⟨w4.heap.size, 0, none⟩ = some (.slice x0a rows0.length x0c) ∧ wa.cell? ⟨w4.heap.size, 1, none⟩ = some (.slice x0e zs0.length x0d) ∧ wa.cell? ⟨w7.heap.size, 0, none⟩ = some (.slice x2a zs2.length x2c) ∧ wa.cell? ⟨w7.heap.size, 1, none⟩ = some (.int .i64 b2) ∧ Below w12.heap.size w12 wa) → Calls Try.prog 18 #[.agg #[.slice a2 zs2.length c2, .int .i64 b2]] wa fun e w' => ∃ p q, e = .returned (.agg #[.slice p zs2.length q, .int .i64 b2]) ∧ ints.Reads .i64 w' p zs2 ∧ (w'.cell? ⟨w.heap.size, 0, none⟩ = some (.slice a0 rows0.length c0) ∧ w'.cell? ⟨w.heap.size, 1, none⟩ = some (.slice e0 zs0.length d0) ∧ w'.cell? ⟨w.heap.size + 1, 0, none⟩ = some (.slice a2 zs2.length c2) ∧ w'.cell? ⟨w.heap.size + 1, 1, none⟩ = some (.int .i64 b2) ∧ w'.cell? ⟨w4.heap.size, 0, none⟩ = some (.slice x0a rows0.length x0c) ∧ w'.cell? ⟨w4.heap.size, 1, none⟩ = some (.slice x0e zs0.length x0d) ∧ w'.cell? ⟨w7.heap.size, 0, none⟩ = some (.slice x2a zs2.length x2c) ∧ w'.cell? ⟨w7.heap.size, 1, none⟩ = some (.int .i64 b2) ∧ Below w12.heap.size w12 w') from fun wa hS => by
    have hz := hS.2.2.2.2.2.2.2.2.size
    refine (planefns.to_any a2 zs2 c2 b2 _ (HR2.out.below (HB12.out.trans (hS.2.2.2.2.2.2.2.2.mono (by omega)))) (by omega)).mono ?_
    rintro e w' ⟨v, rfl, ho, hb⟩
    obtain ⟨p, q, rfl, _, _, _⟩ := ho.slice
    exact ⟨p, q, rfl, ho.reads, cell_below hb hS.1 (by omega), cell_below hb hS.2.1 (by omega), cell_below hb hS.2.2.1 (by omega), cell_below hb hS.2.2.2.1 (by omega), cell_below hb hS.2.2.2.2.1 (by omega), cell_below hb hS.2.2.2.2.2.1 (by omega), cell_below hb hS.2.2.2.2.2.2.1 (by omega), cell_below hb hS.2.2.2.2.2.2.2.1 (by omega), hS.2.2.2.2.2.2.2.2.trans (hb.mono (by omega))⟩)
  have HT2 := Lib.hid (show ∀ (wa : World) (p : Option Addr) (q : Nat), (wa.cell? ⟨w.heap.size, 0, none⟩ = some (.slice a0 rows0.length c0) ∧ wa.cell? ⟨w.heap.size, 1, none⟩ = some (.slice e0 zs0.length d0) ∧ wa.cell? ⟨w.heap.size + 1, 0, none⟩ = some (.slice a2 zs2.length c2) ∧ wa.cell? ⟨w.heap.size + 1, 1, none⟩ = some (.int .i64 b2) ∧ wa.cell? ⟨w4.heap.size, 0, none⟩ = some (.slice x0a rows0.length x0c) ∧ wa.cell? ⟨w4.heap.size, 1, none⟩ = some (.slice x0e zs0.length x0d) ∧ wa.cell? ⟨w7.heap.size, 0, none⟩ = some (.slice x2a zs2.length x2c) ∧ wa.cell? ⟨w7.heap.size, 1, none⟩ = some (.int .i64 b2) ∧ Below w12.heap.size w12 wa) → ints.Reads .i64 wa p zs2 → Calls Try.prog 20 #[.agg #[.slice x2a zs2.length x2c, .int .i64 b2], .agg #[.slice p zs2.length q, .int .i64 b2]] wa fun e w' => e = .returned (.bool true) ∧ (w'.cell? ⟨w.heap.size, 0, none⟩ = some (.slice a0 rows0.length c0) ∧ w'.cell? ⟨w.heap.size, 1, none⟩ = some (.slice e0 zs0.length d0) ∧ w'.cell? ⟨w.heap.size + 1, 0, none⟩ = some (.slice a2 zs2.length c2) ∧ w'.cell? ⟨w.heap.size + 1, 1, none⟩ = some (.int .i64 b2) ∧ w'.cell? ⟨w4.heap.size, 0, none⟩ = some (.slice x0a rows0.length x0c) ∧ w'.cell? ⟨w4.heap.size, 1, none⟩ = some (.slice x0e zs0.length x0d) ∧ w'.cell? ⟨w7.heap.size, 0, none⟩ = some (.slice x2a zs2.length x2c) ∧ w'.cell? ⟨w7.heap.size, 1, none⟩ = some (.int .i64 b2) ∧ Below w12.heap.size w12 w') from fun wa p q hS k1 => by
    have hz := hS.2.2.2.2.2.2.2.2.size
    have ho := Ox2.out.below hS.2.2.2.2.2.2.2.2
    refine (planefns.eq_same _ _ zs2 _ _ b2 _ ho.reads k1 (by omega)).mono ?_
    rintro e w' ⟨rfl, hb⟩
    exact ⟨rfl, cell_below hb hS.1 (by omega), cell_below hb hS.2.1 (by omega), cell_below hb hS.2.2.1 (by omega), cell_below hb hS.2.2.2.1 (by omega), cell_below hb hS.2.2.2.2.1 (by omega), cell_below hb hS.2.2.2.2.2.1 (by omega), cell_below hb hS.2.2.2.2.2.2.1 (by omega), cell_below hb hS.2.2.2.2.2.2.2.1 (by omega), hS.2.2.2.2.2.2.2.2.trans (hb.mono (by omega))⟩)
  go_region_held3 (fun w' => w'.cell? ⟨w.heap.size, 0, none⟩ = some (.slice a0 rows0.length c0) ∧ w'.cell? ⟨w.heap.size, 1, none⟩ = some (.slice e0 zs0.length d0) ∧ w'.cell? ⟨w.heap.size + 1, 0, none⟩ = some (.slice a2 zs2.length c2) ∧ w'.cell? ⟨w.heap.size + 1, 1, none⟩ = some (.int .i64 b2) ∧ w'.cell? ⟨w4.heap.size, 0, none⟩ = some (.slice x0a rows0.length x0c) ∧ w'.cell? ⟨w4.heap.size, 1, none⟩ = some (.slice x0e zs0.length x0d) ∧ w'.cell? ⟨w7.heap.size, 0, none⟩ = some (.slice x2a zs2.length x2c) ∧ w'.cell? ⟨w7.heap.size, 1, none⟩ = some (.int .i64 b2) ∧ Below w12.heap.size w12 w') (first | assumption | exact ⟨x0_0, x0_1, x2_0, x2_1, p0_0, p0_1, p2_0, p2_1, Below.refl _ _⟩ | exact ⟨x0_0, x0_1, x2_0, x2_1, p0_0, p0_1, p2_0, p2_1, (Below.refl _ _).drew⟩) (first | (go_at_call 18; refine Calls.mono (HT1.out _ ?_) ?_; assumption; rintro e w' ⟨p, q, rfl, k1, hbx⟩) | (go_at_call 20; refine Calls.mono (HT2.out _ _ _ ?_ ?_) ?_; assumption; assumption; rintro e w13 ⟨rfl, hbx⟩))
  obtain ⟨_, _, _, _, _, _, _, _, hb⟩ := hbx
  have s13 : w12.heap.size ≤ w13.heap.size := hb.size
  have n13_0 : w.heap.size < w13.heap.size := by omega
  have n13_1 : w.heap.size + 1 < w13.heap.size := by omega
  have n13_2 : w4.heap.size < w13.heap.size := by omega
  have n13_3 : w7.heap.size < w13.heap.size := by omega
  replace x0_0 := cell_below hb x0_0 (by omega)
  replace x0_1 := cell_below hb x0_1 (by omega)
  replace x2_0 := cell_below hb x2_0 (by omega)
  replace x2_1 := cell_below hb x2_1 (by omega)
  replace p0_0 := cell_below hb p0_0 (by omega)
  replace p0_1 := cell_below hb p0_1 (by omega)
  replace p2_0 := cell_below hb p2_0 (by omega)
  replace p2_1 := cell_below hb p2_1 (by omega)
  have HB13 := Lib.hid (HB12.out.trans (hb.mono (by omega)))
  replace Ox0 := Lib.hid (Ox0.out.below hb)
  replace Ox1 := Lib.hid (Ox1.out.below hb)
  replace Ox2 := Lib.hid (Ox2.out.below hb)
  clear hb
  clear HT1 HT2
  go_wp2_with fail
  go_ret
  exact ⟨rfl, HB13.out⟩
end Go.Proofs.Ythohnnobahcdpaa.fnExactWeightedMistakesw
