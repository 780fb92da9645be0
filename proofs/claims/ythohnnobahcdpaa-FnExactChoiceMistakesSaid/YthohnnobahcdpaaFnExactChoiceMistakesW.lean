/- The walk of FnExactChoiceMistakes, from what the model's function and the program's return. -/
import Derived.Test.YthohnnobahcdpaaSampleFns
import Derived.Test.YthohnnobahcdpaaPlaneFns
import Derived.Test.YthohnnobahcdpaaIntFns
import Derived.Test.YthohnnobahcdpaaOwnG
import Derived.Deep.RegionHeld3
namespace Go.Proofs.Ythohnnobahcdpaa.fnExactChoiceMistakesw
open Go.RowKit own
set_option linter.unusedVariables false
set_option linter.unusedSimpArgs false

set_option maxHeartbeats 1000000 in
theorem exit_sz0 (a0 : Option Addr) (rows0 : List (List Int)) (c0 : Nat) (e0 : Option Addr) (zs0 : List Int) (d0 : Nat) (a1 : Option Addr) (zs1 : List Int) (c1 : Nat) (b1 : Int) (a2 : Option Addr) (zs2 : List Int) (c2 : Nat) (b2 : Int) (a3 : Option Addr) (zs3 : List Int) (c3 : Nat) (b3 : Int) (w : World) (hr0 : grid.Reads w a0 rows0) (hq0 : ints.Reads .i64 w e0 zs0) (hr1 : ints.Reads .i64 w a1 zs1) (hr2 : ints.Reads .i64 w a2 zs2) (hr3 : ints.Reads .i64 w a3 zs3) (hl0 : rows0.length ≤ 9223372036854775807) (hm0 : ∀ s ∈ rows0, s.length ≤ 9223372036854775807) (hk0 : zs0.length ≤ 9223372036854775807) (hl1 : zs1.length ≤ 9223372036854775807) (hl2 : zs2.length ≤ 9223372036854775807) (hl3 : zs3.length ≤ 9223372036854775807)  (hx : 1048576 < (rows0.length : Int) + (grid.tot rows0 : Int) + (zs0.length : Int)) : Calls Try.prog 14 #[.agg #[.slice a0 rows0.length c0, .slice e0 zs0.length d0], .agg #[.slice a1 zs1.length c1, .int .i64 b1], .agg #[.slice a2 zs2.length c2, .int .i64 b2], .agg #[.slice a3 zs3.length c3, .int .i64 b3]] w fun e w' => e = .returned (.bool true) ∧ Below w.heap.size w w' := by
  have HR0 := Lib.hid hr0
  have HQ0 := Lib.hid hq0
  have HR1 := Lib.hid hr1
  have HR2 := Lib.hid hr2
  have HR3 := Lib.hid hr3
  clear hr0 hq0 hr1 hr2 hr3
  have HM0 := Lib.hid hm0
  clear hm0
  go_enter Try.func14, Try.ntmps14
  go_wp2_with fail
  have x0_0 : (w.alloc (.cells #[.slice a0 rows0.length c0, .slice e0 zs0.length d0] 33)).cell? ⟨w.heap.size, 0, none⟩ = some (.slice a0 rows0.length c0) := cell_new _ _ _ (by simp) rfl
  have x0_1 : (w.alloc (.cells #[.slice a0 rows0.length c0, .slice e0 zs0.length d0] 33)).cell? ⟨w.heap.size, 1, none⟩ = some (.slice e0 zs0.length d0) := cell_new _ _ _ (by simp) rfl
  have HB0 := Lib.hid (below_alloc w (.cells #[.slice a0 rows0.length c0, .slice e0 zs0.length d0] 33))
  have s0_0 := size_alloc' w (.cells #[.slice a0 rows0.length c0, .slice e0 zs0.length d0] 33)
  replace x0_0 := cell_old (.cells #[.slice a1 zs1.length c1, .int .i64 b1] 24) x0_0
  replace x0_1 := cell_old (.cells #[.slice a1 zs1.length c1, .int .i64 b1] 24) x0_1
  have x1_0 : ((w.alloc (.cells #[.slice a0 rows0.length c0, .slice e0 zs0.length d0] 33)).alloc (.cells #[.slice a1 zs1.length c1, .int .i64 b1] 24)).cell? ⟨w.heap.size + 1, 0, none⟩ = some (.slice a1 zs1.length c1) := cell_new _ _ _ (by simp) rfl
  have x1_1 : ((w.alloc (.cells #[.slice a0 rows0.length c0, .slice e0 zs0.length d0] 33)).alloc (.cells #[.slice a1 zs1.length c1, .int .i64 b1] 24)).cell? ⟨w.heap.size + 1, 1, none⟩ = some (.int .i64 b1) := cell_new _ _ _ (by simp) rfl
  replace HB0 := Lib.hid (HB0.out.alloc (by first | (simp; done) | (simp; omega)) (.cells #[.slice a1 zs1.length c1, .int .i64 b1] 24))
  replace x0_0 := cell_old (.cells #[.slice a2 zs2.length c2, .int .i64 b2] 24) x0_0
  replace x0_1 := cell_old (.cells #[.slice a2 zs2.length c2, .int .i64 b2] 24) x0_1
  replace x1_0 := cell_old (.cells #[.slice a2 zs2.length c2, .int .i64 b2] 24) x1_0
  replace x1_1 := cell_old (.cells #[.slice a2 zs2.length c2, .int .i64 b2] 24) x1_1
  have x2_0 : (((w.alloc (.cells #[.slice a0 rows0.length c0, .slice e0 zs0.length d0] 33)).alloc (.cells #[.slice a1 zs1.length c1, .int .i64 b1] 24)).alloc (.cells #[.slice a2 zs2.length c2, .int .i64 b2] 24)).cell? ⟨w.heap.size + 1 + 1, 0, none⟩ = some (.slice a2 zs2.length c2) := cell_new _ _ _ (by simp) rfl
  have x2_1 : (((w.alloc (.cells #[.slice a0 rows0.length c0, .slice e0 zs0.length d0] 33)).alloc (.cells #[.slice a1 zs1.length c1, .int .i64 b1] 24)).alloc (.cells #[.slice a2 zs2.length c2, .int .i64 b2] 24)).cell? ⟨w.heap.size + 1 + 1, 1, none⟩ = some (.int .i64 b2) := cell_new _ _ _ (by simp) rfl
  replace HB0 := Lib.hid (HB0.out.alloc (by first | (simp; done) | (simp; omega)) (.cells #[.slice a2 zs2.length c2, .int .i64 b2] 24))
  replace x0_0 := cell_old (.cells #[.slice a3 zs3.length c3, .int .i64 b3] 24) x0_0
  replace x0_1 := cell_old (.cells #[.slice a3 zs3.length c3, .int .i64 b3] 24) x0_1
  replace x1_0 := cell_old (.cells #[.slice a3 zs3.length c3, .int .i64 b3] 24) x1_0
  replace x1_1 := cell_old (.cells #[.slice a3 zs3.length c3, .int .i64 b3] 24) x1_1
  replace x2_0 := cell_old (.cells #[.slice a3 zs3.length c3, .int .i64 b3] 24) x2_0
  replace x2_1 := cell_old (.cells #[.slice a3 zs3.length c3, .int .i64 b3] 24) x2_1
  have x3_0 : ((((w.alloc (.cells #[.slice a0 rows0.length c0, .slice e0 zs0.length d0] 33)).alloc (.cells #[.slice a1 zs1.length c1, .int .i64 b1] 24)).alloc (.cells #[.slice a2 zs2.length c2, .int .i64 b2] 24)).alloc (.cells #[.slice a3 zs3.length c3, .int .i64 b3] 24)).cell? ⟨w.heap.size + 1 + 1 + 1, 0, none⟩ = some (.slice a3 zs3.length c3) := cell_new _ _ _ (by simp) rfl
  have x3_1 : ((((w.alloc (.cells #[.slice a0 rows0.length c0, .slice e0 zs0.length d0] 33)).alloc (.cells #[.slice a1 zs1.length c1, .int .i64 b1] 24)).alloc (.cells #[.slice a2 zs2.length c2, .int .i64 b2] 24)).alloc (.cells #[.slice a3 zs3.length c3, .int .i64 b3] 24)).cell? ⟨w.heap.size + 1 + 1 + 1, 1, none⟩ = some (.int .i64 b3) := cell_new _ _ _ (by simp) rfl
  replace HB0 := Lib.hid (HB0.out.alloc (by first | (simp; done) | (simp; omega)) (.cells #[.slice a3 zs3.length c3, .int .i64 b3] 24))
  have s0 : w.heap.size + 4 ≤ ((((w.alloc (.cells #[.slice a0 rows0.length c0, .slice e0 zs0.length d0] 33)).alloc (.cells #[.slice a1 zs1.length c1, .int .i64 b1] 24)).alloc (.cells #[.slice a2 zs2.length c2, .int .i64 b2] 24)).alloc (.cells #[.slice a3 zs3.length c3, .int .i64 b3] 24)).heap.size := by simp
  clear s0_0
  generalize hw : ((((w.alloc (.cells #[.slice a0 rows0.length c0, .slice e0 zs0.length d0] 33)).alloc (.cells #[.slice a1 zs1.length c1, .int .i64 b1] 24)).alloc (.cells #[.slice a2 zs2.length c2, .int .i64 b2] 24)).alloc (.cells #[.slice a3 zs3.length c3, .int .i64 b3] 24)) = w0 at *
  clear hw
  refine (samplefns.sz_no _ rows0 _ _ _ _ _ _ (HR0.out.below HB0.out) (by omega) HM0.out (by omega) (by omega) (by omega) (by omega)).mono ?_
  rintro e w1 ⟨rfl, hb⟩
  have s1 : w0.heap.size ≤ w1.heap.size := hb.size
  have n1_0 : w.heap.size < w1.heap.size := by omega
  have n1_1 : w.heap.size + 1 < w1.heap.size := by omega
  have n1_2 : w.heap.size + 1 + 1 < w1.heap.size := by omega
  have n1_3 : w.heap.size + 1 + 1 + 1 < w1.heap.size := by omega
  replace x0_0 := cell_below hb x0_0 (by omega)
  replace x0_1 := cell_below hb x0_1 (by omega)
  replace x1_0 := cell_below hb x1_0 (by omega)
  replace x1_1 := cell_below hb x1_1 (by omega)
  replace x2_0 := cell_below hb x2_0 (by omega)
  replace x2_1 := cell_below hb x2_1 (by omega)
  replace x3_0 := cell_below hb x3_0 (by omega)
  replace x3_1 := cell_below hb x3_1 (by omega)
  have HB1 := Lib.hid (HB0.out.trans (hb.mono (by omega)))
  clear hb
  go_wp2_with fail
  go_ret
  exact ⟨rfl, HB1.out⟩

set_option maxHeartbeats 1000000 in
theorem exit_sz1 (a0 : Option Addr) (rows0 : List (List Int)) (c0 : Nat) (e0 : Option Addr) (zs0 : List Int) (d0 : Nat) (a1 : Option Addr) (zs1 : List Int) (c1 : Nat) (b1 : Int) (a2 : Option Addr) (zs2 : List Int) (c2 : Nat) (b2 : Int) (a3 : Option Addr) (zs3 : List Int) (c3 : Nat) (b3 : Int) (w : World) (hr0 : grid.Reads w a0 rows0) (hq0 : ints.Reads .i64 w e0 zs0) (hr1 : ints.Reads .i64 w a1 zs1) (hr2 : ints.Reads .i64 w a2 zs2) (hr3 : ints.Reads .i64 w a3 zs3) (hl0 : rows0.length ≤ 9223372036854775807) (hm0 : ∀ s ∈ rows0, s.length ≤ 9223372036854775807) (hk0 : zs0.length ≤ 9223372036854775807) (hl1 : zs1.length ≤ 9223372036854775807) (hl2 : zs2.length ≤ 9223372036854775807) (hl3 : zs3.length ≤ 9223372036854775807)  (hb : (rows0.length : Int) + (grid.tot rows0 : Int) + (zs0.length : Int) ≤ 1048576) (hx : 1048576 < (rows0.length : Int) + (grid.tot rows0 : Int) + (zs0.length : Int) + (zs1.length : Int)) : Calls Try.prog 14 #[.agg #[.slice a0 rows0.length c0, .slice e0 zs0.length d0], .agg #[.slice a1 zs1.length c1, .int .i64 b1], .agg #[.slice a2 zs2.length c2, .int .i64 b2], .agg #[.slice a3 zs3.length c3, .int .i64 b3]] w fun e w' => e = .returned (.bool true) ∧ Below w.heap.size w w' := by
  have HR0 := Lib.hid hr0
  have HQ0 := Lib.hid hq0
  have HR1 := Lib.hid hr1
  have HR2 := Lib.hid hr2
  have HR3 := Lib.hid hr3
  clear hr0 hq0 hr1 hr2 hr3
  have HM0 := Lib.hid hm0
  clear hm0
  go_enter Try.func14, Try.ntmps14
  go_wp2_with fail
  have x0_0 : (w.alloc (.cells #[.slice a0 rows0.length c0, .slice e0 zs0.length d0] 33)).cell? ⟨w.heap.size, 0, none⟩ = some (.slice a0 rows0.length c0) := cell_new _ _ _ (by simp) rfl
  have x0_1 : (w.alloc (.cells #[.slice a0 rows0.length c0, .slice e0 zs0.length d0] 33)).cell? ⟨w.heap.size, 1, none⟩ = some (.slice e0 zs0.length d0) := cell_new _ _ _ (by simp) rfl
  have HB0 := Lib.hid (below_alloc w (.cells #[.slice a0 rows0.length c0, .slice e0 zs0.length d0] 33))
  have s0_0 := size_alloc' w (.cells #[.slice a0 rows0.length c0, .slice e0 zs0.length d0] 33)
  replace x0_0 := cell_old (.cells #[.slice a1 zs1.length c1, .int .i64 b1] 24) x0_0
  replace x0_1 := cell_old (.cells #[.slice a1 zs1.length c1, .int .i64 b1] 24) x0_1
  have x1_0 : ((w.alloc (.cells #[.slice a0 rows0.length c0, .slice e0 zs0.length d0] 33)).alloc (.cells #[.slice a1 zs1.length c1, .int .i64 b1] 24)).cell? ⟨w.heap.size + 1, 0, none⟩ = some (.slice a1 zs1.length c1) := cell_new _ _ _ (by simp) rfl
  have x1_1 : ((w.alloc (.cells #[.slice a0 rows0.length c0, .slice e0 zs0.length d0] 33)).alloc (.cells #[.slice a1 zs1.length c1, .int .i64 b1] 24)).cell? ⟨w.heap.size + 1, 1, none⟩ = some (.int .i64 b1) := cell_new _ _ _ (by simp) rfl
  replace HB0 := Lib.hid (HB0.out.alloc (by first | (simp; done) | (simp; omega)) (.cells #[.slice a1 zs1.length c1, .int .i64 b1] 24))
  replace x0_0 := cell_old (.cells #[.slice a2 zs2.length c2, .int .i64 b2] 24) x0_0
  replace x0_1 := cell_old (.cells #[.slice a2 zs2.length c2, .int .i64 b2] 24) x0_1
  replace x1_0 := cell_old (.cells #[.slice a2 zs2.length c2, .int .i64 b2] 24) x1_0
  replace x1_1 := cell_old (.cells #[.slice a2 zs2.length c2, .int .i64 b2] 24) x1_1
  have x2_0 : (((w.alloc (.cells #[.slice a0 rows0.length c0, .slice e0 zs0.length d0] 33)).alloc (.cells #[.slice a1 zs1.length c1, .int .i64 b1] 24)).alloc (.cells #[.slice a2 zs2.length c2, .int .i64 b2] 24)).cell? ⟨w.heap.size + 1 + 1, 0, none⟩ = some (.slice a2 zs2.length c2) := cell_new _ _ _ (by simp) rfl
  have x2_1 : (((w.alloc (.cells #[.slice a0 rows0.length c0, .slice e0 zs0.length d0] 33)).alloc (.cells #[.slice a1 zs1.length c1, .int .i64 b1] 24)).alloc (.cells #[.slice a2 zs2.length c2, .int .i64 b2] 24)).cell? ⟨w.heap.size + 1 + 1, 1, none⟩ = some (.int .i64 b2) := cell_new _ _ _ (by simp) rfl
  replace HB0 := Lib.hid (HB0.out.alloc (by first | (simp; done) | (simp; omega)) (.cells #[.slice a2 zs2.length c2, .int .i64 b2] 24))
  replace x0_0 := cell_old (.cells #[.slice a3 zs3.length c3, .int .i64 b3] 24) x0_0
  replace x0_1 := cell_old (.cells #[.slice a3 zs3.length c3, .int .i64 b3] 24) x0_1
  replace x1_0 := cell_old (.cells #[.slice a3 zs3.length c3, .int .i64 b3] 24) x1_0
  replace x1_1 := cell_old (.cells #[.slice a3 zs3.length c3, .int .i64 b3] 24) x1_1
  replace x2_0 := cell_old (.cells #[.slice a3 zs3.length c3, .int .i64 b3] 24) x2_0
  replace x2_1 := cell_old (.cells #[.slice a3 zs3.length c3, .int .i64 b3] 24) x2_1
  have x3_0 : ((((w.alloc (.cells #[.slice a0 rows0.length c0, .slice e0 zs0.length d0] 33)).alloc (.cells #[.slice a1 zs1.length c1, .int .i64 b1] 24)).alloc (.cells #[.slice a2 zs2.length c2, .int .i64 b2] 24)).alloc (.cells #[.slice a3 zs3.length c3, .int .i64 b3] 24)).cell? ⟨w.heap.size + 1 + 1 + 1, 0, none⟩ = some (.slice a3 zs3.length c3) := cell_new _ _ _ (by simp) rfl
  have x3_1 : ((((w.alloc (.cells #[.slice a0 rows0.length c0, .slice e0 zs0.length d0] 33)).alloc (.cells #[.slice a1 zs1.length c1, .int .i64 b1] 24)).alloc (.cells #[.slice a2 zs2.length c2, .int .i64 b2] 24)).alloc (.cells #[.slice a3 zs3.length c3, .int .i64 b3] 24)).cell? ⟨w.heap.size + 1 + 1 + 1, 1, none⟩ = some (.int .i64 b3) := cell_new _ _ _ (by simp) rfl
  replace HB0 := Lib.hid (HB0.out.alloc (by first | (simp; done) | (simp; omega)) (.cells #[.slice a3 zs3.length c3, .int .i64 b3] 24))
  have s0 : w.heap.size + 4 ≤ ((((w.alloc (.cells #[.slice a0 rows0.length c0, .slice e0 zs0.length d0] 33)).alloc (.cells #[.slice a1 zs1.length c1, .int .i64 b1] 24)).alloc (.cells #[.slice a2 zs2.length c2, .int .i64 b2] 24)).alloc (.cells #[.slice a3 zs3.length c3, .int .i64 b3] 24)).heap.size := by simp
  clear s0_0
  generalize hw : ((((w.alloc (.cells #[.slice a0 rows0.length c0, .slice e0 zs0.length d0] 33)).alloc (.cells #[.slice a1 zs1.length c1, .int .i64 b1] 24)).alloc (.cells #[.slice a2 zs2.length c2, .int .i64 b2] 24)).alloc (.cells #[.slice a3 zs3.length c3, .int .i64 b3] 24)) = w0 at *
  clear hw
  refine (samplefns.sz_yes _ rows0 _ _ _ _ _ _ (HR0.out.below HB0.out) (by omega) (by omega)).mono ?_
  rintro e w1 ⟨rfl, hb⟩
  have s1 : w0.heap.size ≤ w1.heap.size := hb.size
  have n1_0 : w.heap.size < w1.heap.size := by omega
  have n1_1 : w.heap.size + 1 < w1.heap.size := by omega
  have n1_2 : w.heap.size + 1 + 1 < w1.heap.size := by omega
  have n1_3 : w.heap.size + 1 + 1 + 1 < w1.heap.size := by omega
  replace x0_0 := cell_below hb x0_0 (by omega)
  replace x0_1 := cell_below hb x0_1 (by omega)
  replace x1_0 := cell_below hb x1_0 (by omega)
  replace x1_1 := cell_below hb x1_1 (by omega)
  replace x2_0 := cell_below hb x2_0 (by omega)
  replace x2_1 := cell_below hb x2_1 (by omega)
  replace x3_0 := cell_below hb x3_0 (by omega)
  replace x3_1 := cell_below hb x3_1 (by omega)
  have HB1 := Lib.hid (HB0.out.trans (hb.mono (by omega)))
  clear hb
  go_wp2_with fail
  refine (planefns.sz_no _ _ _ _ _ _ (by omega) (by omega) (by omega) (by omega)).mono ?_
  rintro e w2 ⟨rfl, hb⟩
  have s2 : w1.heap.size ≤ w2.heap.size := hb.size
  have n2_0 : w.heap.size < w2.heap.size := by omega
  have n2_1 : w.heap.size + 1 < w2.heap.size := by omega
  have n2_2 : w.heap.size + 1 + 1 < w2.heap.size := by omega
  have n2_3 : w.heap.size + 1 + 1 + 1 < w2.heap.size := by omega
  replace x0_0 := cell_below hb x0_0 (by omega)
  replace x0_1 := cell_below hb x0_1 (by omega)
  replace x1_0 := cell_below hb x1_0 (by omega)
  replace x1_1 := cell_below hb x1_1 (by omega)
  replace x2_0 := cell_below hb x2_0 (by omega)
  replace x2_1 := cell_below hb x2_1 (by omega)
  replace x3_0 := cell_below hb x3_0 (by omega)
  replace x3_1 := cell_below hb x3_1 (by omega)
  have HB2 := Lib.hid (HB1.out.trans (hb.mono (by omega)))
  clear hb
  go_wp2_with fail
  go_ret
  exact ⟨rfl, HB2.out⟩

set_option maxHeartbeats 1000000 in
theorem exit_sz2 (a0 : Option Addr) (rows0 : List (List Int)) (c0 : Nat) (e0 : Option Addr) (zs0 : List Int) (d0 : Nat) (a1 : Option Addr) (zs1 : List Int) (c1 : Nat) (b1 : Int) (a2 : Option Addr) (zs2 : List Int) (c2 : Nat) (b2 : Int) (a3 : Option Addr) (zs3 : List Int) (c3 : Nat) (b3 : Int) (w : World) (hr0 : grid.Reads w a0 rows0) (hq0 : ints.Reads .i64 w e0 zs0) (hr1 : ints.Reads .i64 w a1 zs1) (hr2 : ints.Reads .i64 w a2 zs2) (hr3 : ints.Reads .i64 w a3 zs3) (hl0 : rows0.length ≤ 9223372036854775807) (hm0 : ∀ s ∈ rows0, s.length ≤ 9223372036854775807) (hk0 : zs0.length ≤ 9223372036854775807) (hl1 : zs1.length ≤ 9223372036854775807) (hl2 : zs2.length ≤ 9223372036854775807) (hl3 : zs3.length ≤ 9223372036854775807)  (hb : (rows0.length : Int) + (grid.tot rows0 : Int) + (zs0.length : Int) + (zs1.length : Int) ≤ 1048576) (hx : 1048576 < (rows0.length : Int) + (grid.tot rows0 : Int) + (zs0.length : Int) + (zs1.length : Int) + (zs2.length : Int)) : Calls Try.prog 14 #[.agg #[.slice a0 rows0.length c0, .slice e0 zs0.length d0], .agg #[.slice a1 zs1.length c1, .int .i64 b1], .agg #[.slice a2 zs2.length c2, .int .i64 b2], .agg #[.slice a3 zs3.length c3, .int .i64 b3]] w fun e w' => e = .returned (.bool true) ∧ Below w.heap.size w w' := by
  have HR0 := Lib.hid hr0
  have HQ0 := Lib.hid hq0
  have HR1 := Lib.hid hr1
  have HR2 := Lib.hid hr2
  have HR3 := Lib.hid hr3
  clear hr0 hq0 hr1 hr2 hr3
  have HM0 := Lib.hid hm0
  clear hm0
  go_enter Try.func14, Try.ntmps14
  go_wp2_with fail
  have x0_0 : (w.alloc (.cells #[.slice a0 rows0.length c0, .slice e0 zs0.length d0] 33)).cell? ⟨w.heap.size, 0, none⟩ = some (.slice a0 rows0.length c0) := cell_new _ _ _ (by simp) rfl
  have x0_1 : (w.alloc (.cells #[.slice a0 rows0.length c0, .slice e0 zs0.length d0] 33)).cell? ⟨w.heap.size, 1, none⟩ = some (.slice e0 zs0.length d0) := cell_new _ _ _ (by simp) rfl
  have HB0 := Lib.hid (below_alloc w (.cells #[.slice a0 rows0.length c0, .slice e0 zs0.length d0] 33))
  have s0_0 := size_alloc' w (.cells #[.slice a0 rows0.length c0, .slice e0 zs0.length d0] 33)
  replace x0_0 := cell_old (.cells #[.slice a1 zs1.length c1, .int .i64 b1] 24) x0_0
  replace x0_1 := cell_old (.cells #[.slice a1 zs1.length c1, .int .i64 b1] 24) x0_1
  have x1_0 : ((w.alloc (.cells #[.slice a0 rows0.length c0, .slice e0 zs0.length d0] 33)).alloc (.cells #[.slice a1 zs1.length c1, .int .i64 b1] 24)).cell? ⟨w.heap.size + 1, 0, none⟩ = some (.slice a1 zs1.length c1) := cell_new _ _ _ (by simp) rfl
  have x1_1 : ((w.alloc (.cells #[.slice a0 rows0.length c0, .slice e0 zs0.length d0] 33)).alloc (.cells #[.slice a1 zs1.length c1, .int .i64 b1] 24)).cell? ⟨w.heap.size + 1, 1, none⟩ = some (.int .i64 b1) := cell_new _ _ _ (by simp) rfl
  replace HB0 := Lib.hid (HB0.out.alloc (by first | (simp; done) | (simp; omega)) (.cells #[.slice a1 zs1.length c1, .int .i64 b1] 24))
  replace x0_0 := cell_old (.cells #[.slice a2 zs2.length c2, .int .i64 b2] 24) x0_0
  replace x0_1 := cell_old (.cells #[.slice a2 zs2.length c2, .int .i64 b2] 24) x0_1
  replace x1_0 := cell_old (.cells #[.slice a2 zs2.length c2, .int .i64 b2] 24) x1_0
  replace x1_1 := cell_old (.cells #[.slice a2 zs2.length c2, .int .i64 b2] 24) x1_1
  have x2_0 : (((w.alloc (.cells #[.slice a0 rows0.length c0, .slice e0 zs0.length d0] 33)).alloc (.cells #[.slice a1 zs1.length c1, .int .i64 b1] 24)).alloc (.cells #[.slice a2 zs2.length c2, .int .i64 b2] 24)).cell? ⟨w.heap.size + 1 + 1, 0, none⟩ = some (.slice a2 zs2.length c2) := cell_new _ _ _ (by simp) rfl
  have x2_1 : (((w.alloc (.cells #[.slice a0 rows0.length c0, .slice e0 zs0.length d0] 33)).alloc (.cells #[.slice a1 zs1.length c1, .int .i64 b1] 24)).alloc (.cells #[.slice a2 zs2.length c2, .int .i64 b2] 24)).cell? ⟨w.heap.size + 1 + 1, 1, none⟩ = some (.int .i64 b2) := cell_new _ _ _ (by simp) rfl
  replace HB0 := Lib.hid (HB0.out.alloc (by first | (simp; done) | (simp; omega)) (.cells #[.slice a2 zs2.length c2, .int .i64 b2] 24))
  replace x0_0 := cell_old (.cells #[.slice a3 zs3.length c3, .int .i64 b3] 24) x0_0
  replace x0_1 := cell_old (.cells #[.slice a3 zs3.length c3, .int .i64 b3] 24) x0_1
  replace x1_0 := cell_old (.cells #[.slice a3 zs3.length c3, .int .i64 b3] 24) x1_0
  replace x1_1 := cell_old (.cells #[.slice a3 zs3.length c3, .int .i64 b3] 24) x1_1
  replace x2_0 := cell_old (.cells #[.slice a3 zs3.length c3, .int .i64 b3] 24) x2_0
  replace x2_1 := cell_old (.cells #[.slice a3 zs3.length c3, .int .i64 b3] 24) x2_1
  have x3_0 : ((((w.alloc (.cells #[.slice a0 rows0.length c0, .slice e0 zs0.length d0] 33)).alloc (.cells #[.slice a1 zs1.length c1, .int .i64 b1] 24)).alloc (.cells #[.slice a2 zs2.length c2, .int .i64 b2] 24)).alloc (.cells #[.slice a3 zs3.length c3, .int .i64 b3] 24)).cell? ⟨w.heap.size + 1 + 1 + 1, 0, none⟩ = some (.slice a3 zs3.length c3) := cell_new _ _ _ (by simp) rfl
  have x3_1 : ((((w.alloc (.cells #[.slice a0 rows0.length c0, .slice e0 zs0.length d0] 33)).alloc (.cells #[.slice a1 zs1.length c1, .int .i64 b1] 24)).alloc (.cells #[.slice a2 zs2.length c2, .int .i64 b2] 24)).alloc (.cells #[.slice a3 zs3.length c3, .int .i64 b3] 24)).cell? ⟨w.heap.size + 1 + 1 + 1, 1, none⟩ = some (.int .i64 b3) := cell_new _ _ _ (by simp) rfl
  replace HB0 := Lib.hid (HB0.out.alloc (by first | (simp; done) | (simp; omega)) (.cells #[.slice a3 zs3.length c3, .int .i64 b3] 24))
  have s0 : w.heap.size + 4 ≤ ((((w.alloc (.cells #[.slice a0 rows0.length c0, .slice e0 zs0.length d0] 33)).alloc (.cells #[.slice a1 zs1.length c1, .int .i64 b1] 24)).alloc (.cells #[.slice a2 zs2.length c2, .int .i64 b2] 24)).alloc (.cells #[.slice a3 zs3.length c3, .int .i64 b3] 24)).heap.size := by simp
  clear s0_0
  generalize hw : ((((w.alloc (.cells #[.slice a0 rows0.length c0, .slice e0 zs0.length d0] 33)).alloc (.cells #[.slice a1 zs1.length c1, .int .i64 b1] 24)).alloc (.cells #[.slice a2 zs2.length c2, .int .i64 b2] 24)).alloc (.cells #[.slice a3 zs3.length c3, .int .i64 b3] 24)) = w0 at *
  clear hw
  refine (samplefns.sz_yes _ rows0 _ _ _ _ _ _ (HR0.out.below HB0.out) (by omega) (by omega)).mono ?_
  rintro e w1 ⟨rfl, hb⟩
  have s1 : w0.heap.size ≤ w1.heap.size := hb.size
  have n1_0 : w.heap.size < w1.heap.size := by omega
  have n1_1 : w.heap.size + 1 < w1.heap.size := by omega
  have n1_2 : w.heap.size + 1 + 1 < w1.heap.size := by omega
  have n1_3 : w.heap.size + 1 + 1 + 1 < w1.heap.size := by omega
  replace x0_0 := cell_below hb x0_0 (by omega)
  replace x0_1 := cell_below hb x0_1 (by omega)
  replace x1_0 := cell_below hb x1_0 (by omega)
  replace x1_1 := cell_below hb x1_1 (by omega)
  replace x2_0 := cell_below hb x2_0 (by omega)
  replace x2_1 := cell_below hb x2_1 (by omega)
  replace x3_0 := cell_below hb x3_0 (by omega)
  replace x3_1 := cell_below hb x3_1 (by omega)
  have HB1 := Lib.hid (HB0.out.trans (hb.mono (by omega)))
  clear hb
  go_wp2_with fail
  refine (planefns.sz_yes _ _ _ _ _ _ (by omega) (by omega)).mono ?_
  rintro e w2 ⟨rfl, hb⟩
  have s2 : w1.heap.size ≤ w2.heap.size := hb.size
  have n2_0 : w.heap.size < w2.heap.size := by omega
  have n2_1 : w.heap.size + 1 < w2.heap.size := by omega
  have n2_2 : w.heap.size + 1 + 1 < w2.heap.size := by omega
  have n2_3 : w.heap.size + 1 + 1 + 1 < w2.heap.size := by omega
  replace x0_0 := cell_below hb x0_0 (by omega)
  replace x0_1 := cell_below hb x0_1 (by omega)
  replace x1_0 := cell_below hb x1_0 (by omega)
  replace x1_1 := cell_below hb x1_1 (by omega)
  replace x2_0 := cell_below hb x2_0 (by omega)
  replace x2_1 := cell_below hb x2_1 (by omega)
  replace x3_0 := cell_below hb x3_0 (by omega)
  replace x3_1 := cell_below hb x3_1 (by omega)
  have HB2 := Lib.hid (HB1.out.trans (hb.mono (by omega)))
  clear hb
  go_wp2_with fail
  refine (planefns.sz_no _ _ _ _ _ _ (by omega) (by omega) (by omega) (by omega)).mono ?_
  rintro e w3 ⟨rfl, hb⟩
  have s3 : w2.heap.size ≤ w3.heap.size := hb.size
  have n3_0 : w.heap.size < w3.heap.size := by omega
  have n3_1 : w.heap.size + 1 < w3.heap.size := by omega
  have n3_2 : w.heap.size + 1 + 1 < w3.heap.size := by omega
  have n3_3 : w.heap.size + 1 + 1 + 1 < w3.heap.size := by omega
  replace x0_0 := cell_below hb x0_0 (by omega)
  replace x0_1 := cell_below hb x0_1 (by omega)
  replace x1_0 := cell_below hb x1_0 (by omega)
  replace x1_1 := cell_below hb x1_1 (by omega)
  replace x2_0 := cell_below hb x2_0 (by omega)
  replace x2_1 := cell_below hb x2_1 (by omega)
  replace x3_0 := cell_below hb x3_0 (by omega)
  replace x3_1 := cell_below hb x3_1 (by omega)
  have HB3 := Lib.hid (HB2.out.trans (hb.mono (by omega)))
  clear hb
  go_wp2_with fail
  go_ret
  exact ⟨rfl, HB3.out⟩

set_option maxHeartbeats 1000000 in
theorem exit_sz3 (a0 : Option Addr) (rows0 : List (List Int)) (c0 : Nat) (e0 : Option Addr) (zs0 : List Int) (d0 : Nat) (a1 : Option Addr) (zs1 : List Int) (c1 : Nat) (b1 : Int) (a2 : Option Addr) (zs2 : List Int) (c2 : Nat) (b2 : Int) (a3 : Option Addr) (zs3 : List Int) (c3 : Nat) (b3 : Int) (w : World) (hr0 : grid.Reads w a0 rows0) (hq0 : ints.Reads .i64 w e0 zs0) (hr1 : ints.Reads .i64 w a1 zs1) (hr2 : ints.Reads .i64 w a2 zs2) (hr3 : ints.Reads .i64 w a3 zs3) (hl0 : rows0.length ≤ 9223372036854775807) (hm0 : ∀ s ∈ rows0, s.length ≤ 9223372036854775807) (hk0 : zs0.length ≤ 9223372036854775807) (hl1 : zs1.length ≤ 9223372036854775807) (hl2 : zs2.length ≤ 9223372036854775807) (hl3 : zs3.length ≤ 9223372036854775807)  (hb : (rows0.length : Int) + (grid.tot rows0 : Int) + (zs0.length : Int) + (zs1.length : Int) + (zs2.length : Int) ≤ 1048576) (hx : 1048576 < (rows0.length : Int) + (grid.tot rows0 : Int) + (zs0.length : Int) + (zs1.length : Int) + (zs2.length : Int) + (zs3.length : Int)) : Calls Try.prog 14 #[.agg #[.slice a0 rows0.length c0, .slice e0 zs0.length d0], .agg #[.slice a1 zs1.length c1, .int .i64 b1], .agg #[.slice a2 zs2.length c2, .int .i64 b2], .agg #[.slice a3 zs3.length c3, .int .i64 b3]] w fun e w' => e = .returned (.bool true) ∧ Below w.heap.size w w' := by
  have HR0 := Lib.hid hr0
  have HQ0 := Lib.hid hq0
  have HR1 := Lib.hid hr1
  have HR2 := Lib.hid hr2
  have HR3 := Lib.hid hr3
  clear hr0 hq0 hr1 hr2 hr3
  have HM0 := Lib.hid hm0
  clear hm0
  go_enter Try.func14, Try.ntmps14
  go_wp2_with fail
  have x0_0 : (w.alloc (.cells #[.slice a0 rows0.length c0, .slice e0 zs0.length d0] 33)).cell? ⟨w.heap.size, 0, none⟩ = some (.slice a0 rows0.length c0) := cell_new _ _ _ (by simp) rfl
  have x0_1 : (w.alloc (.cells #[.slice a0 rows0.length c0, .slice e0 zs0.length d0] 33)).cell? ⟨w.heap.size, 1, none⟩ = some (.slice e0 zs0.length d0) := cell_new _ _ _ (by simp) rfl
  have HB0 := Lib.hid (below_alloc w (.cells #[.slice a0 rows0.length c0, .slice e0 zs0.length d0] 33))
  have s0_0 := size_alloc' w (.cells #[.slice a0 rows0.length c0, .slice e0 zs0.length d0] 33)
  replace x0_0 := cell_old (.cells #[.slice a1 zs1.length c1, .int .i64 b1] 24) x0_0
  replace x0_1 := cell_old (.cells #[.slice a1 zs1.length c1, .int .i64 b1] 24) x0_1
  have x1_0 : ((w.alloc (.cells #[.slice a0 rows0.length c0, .slice e0 zs0.length d0] 33)).alloc (.cells #[.slice a1 zs1.length c1, .int .i64 b1] 24)).cell? ⟨w.heap.size + 1, 0, none⟩ = some (.slice a1 zs1.length c1) := cell_new _ _ _ (by simp) rfl
  have x1_1 : ((w.alloc (.cells #[.slice a0 rows0.length c0, .slice e0 zs0.length d0] 33)).alloc (.cells #[.slice a1 zs1.length c1, .int .i64 b1] 24)).cell? ⟨w.heap.size + 1, 1, none⟩ = some (.int .i64 b1) := cell_new _ _ _ (by simp) rfl
  replace HB0 := Lib.hid (HB0.out.alloc (by first | (simp; done) | (simp; omega)) (.cells #[.slice a1 zs1.length c1, .int .i64 b1] 24))
  replace x0_0 := cell_old (.cells #[.slice a2 zs2.length c2, .int .i64 b2] 24) x0_0
  replace x0_1 := cell_old (.cells #[.slice a2 zs2.length c2, .int .i64 b2] 24) x0_1
  replace x1_0 := cell_old (.cells #[.slice a2 zs2.length c2, .int .i64 b2] 24) x1_0
  replace x1_1 := cell_old (.cells #[.slice a2 zs2.length c2, .int .i64 b2] 24) x1_1
  have x2_0 : (((w.alloc (.cells #[.slice a0 rows0.length c0, .slice e0 zs0.length d0] 33)).alloc (.cells #[.slice a1 zs1.length c1, .int .i64 b1] 24)).alloc (.cells #[.slice a2 zs2.length c2, .int .i64 b2] 24)).cell? ⟨w.heap.size + 1 + 1, 0, none⟩ = some (.slice a2 zs2.length c2) := cell_new _ _ _ (by simp) rfl
  have x2_1 : (((w.alloc (.cells #[.slice a0 rows0.length c0, .slice e0 zs0.length d0] 33)).alloc (.cells #[.slice a1 zs1.length c1, .int .i64 b1] 24)).alloc (.cells #[.slice a2 zs2.length c2, .int .i64 b2] 24)).cell? ⟨w.heap.size + 1 + 1, 1, none⟩ = some (.int .i64 b2) := cell_new _ _ _ (by simp) rfl
  replace HB0 := Lib.hid (HB0.out.alloc (by first | (simp; done) | (simp; omega)) (.cells #[.slice a2 zs2.length c2, .int .i64 b2] 24))
  replace x0_0 := cell_old (.cells #[.slice a3 zs3.length c3, .int .i64 b3] 24) x0_0
  replace x0_1 := cell_old (.cells #[.slice a3 zs3.length c3, .int .i64 b3] 24) x0_1
  replace x1_0 := cell_old (.cells #[.slice a3 zs3.length c3, .int .i64 b3] 24) x1_0
  replace x1_1 := cell_old (.cells #[.slice a3 zs3.length c3, .int .i64 b3] 24) x1_1
  replace x2_0 := cell_old (.cells #[.slice a3 zs3.length c3, .int .i64 b3] 24) x2_0
  replace x2_1 := cell_old (.cells #[.slice a3 zs3.length c3, .int .i64 b3] 24) x2_1
  have x3_0 : ((((w.alloc (.cells #[.slice a0 rows0.length c0, .slice e0 zs0.length d0] 33)).alloc (.cells #[.slice a1 zs1.length c1, .int .i64 b1] 24)).alloc (.cells #[.slice a2 zs2.length c2, .int .i64 b2] 24)).alloc (.cells #[.slice a3 zs3.length c3, .int .i64 b3] 24)).cell? ⟨w.heap.size + 1 + 1 + 1, 0, none⟩ = some (.slice a3 zs3.length c3) := cell_new _ _ _ (by simp) rfl
  have x3_1 : ((((w.alloc (.cells #[.slice a0 rows0.length c0, .slice e0 zs0.length d0] 33)).alloc (.cells #[.slice a1 zs1.length c1, .int .i64 b1] 24)).alloc (.cells #[.slice a2 zs2.length c2, .int .i64 b2] 24)).alloc (.cells #[.slice a3 zs3.length c3, .int .i64 b3] 24)).cell? ⟨w.heap.size + 1 + 1 + 1, 1, none⟩ = some (.int .i64 b3) := cell_new _ _ _ (by simp) rfl
  replace HB0 := Lib.hid (HB0.out.alloc (by first | (simp; done) | (simp; omega)) (.cells #[.slice a3 zs3.length c3, .int .i64 b3] 24))
  have s0 : w.heap.size + 4 ≤ ((((w.alloc (.cells #[.slice a0 rows0.length c0, .slice e0 zs0.length d0] 33)).alloc (.cells #[.slice a1 zs1.length c1, .int .i64 b1] 24)).alloc (.cells #[.slice a2 zs2.length c2, .int .i64 b2] 24)).alloc (.cells #[.slice a3 zs3.length c3, .int .i64 b3] 24)).heap.size := by simp
  clear s0_0
  generalize hw : ((((w.alloc (.cells #[.slice a0 rows0.length c0, .slice e0 zs0.length d0] 33)).alloc (.cells #[.slice a1 zs1.length c1, .int .i64 b1] 24)).alloc (.cells #[.slice a2 zs2.length c2, .int .i64 b2] 24)).alloc (.cells #[.slice a3 zs3.length c3, .int .i64 b3] 24)) = w0 at *
  clear hw
  refine (samplefns.sz_yes _ rows0 _ _ _ _ _ _ (HR0.out.below HB0.out) (by omega) (by omega)).mono ?_
  rintro e w1 ⟨rfl, hb⟩
  have s1 : w0.heap.size ≤ w1.heap.size := hb.size
  have n1_0 : w.heap.size < w1.heap.size := by omega
  have n1_1 : w.heap.size + 1 < w1.heap.size := by omega
  have n1_2 : w.heap.size + 1 + 1 < w1.heap.size := by omega
  have n1_3 : w.heap.size + 1 + 1 + 1 < w1.heap.size := by omega
  replace x0_0 := cell_below hb x0_0 (by omega)
  replace x0_1 := cell_below hb x0_1 (by omega)
  replace x1_0 := cell_below hb x1_0 (by omega)
  replace x1_1 := cell_below hb x1_1 (by omega)
  replace x2_0 := cell_below hb x2_0 (by omega)
  replace x2_1 := cell_below hb x2_1 (by omega)
  replace x3_0 := cell_below hb x3_0 (by omega)
  replace x3_1 := cell_below hb x3_1 (by omega)
  have HB1 := Lib.hid (HB0.out.trans (hb.mono (by omega)))
  clear hb
  go_wp2_with fail
  refine (planefns.sz_yes _ _ _ _ _ _ (by omega) (by omega)).mono ?_
  rintro e w2 ⟨rfl, hb⟩
  have s2 : w1.heap.size ≤ w2.heap.size := hb.size
  have n2_0 : w.heap.size < w2.heap.size := by omega
  have n2_1 : w.heap.size + 1 < w2.heap.size := by omega
  have n2_2 : w.heap.size + 1 + 1 < w2.heap.size := by omega
  have n2_3 : w.heap.size + 1 + 1 + 1 < w2.heap.size := by omega
  replace x0_0 := cell_below hb x0_0 (by omega)
  replace x0_1 := cell_below hb x0_1 (by omega)
  replace x1_0 := cell_below hb x1_0 (by omega)
  replace x1_1 := cell_below hb x1_1 (by omega)
  replace x2_0 := cell_below hb x2_0 (by omega)
  replace x2_1 := cell_below hb x2_1 (by omega)
  replace x3_0 := cell_below hb x3_0 (by omega)
  replace x3_1 := cell_below hb x3_1 (by omega)
  have HB2 := Lib.hid (HB1.out.trans (hb.mono (by omega)))
  clear hb
  go_wp2_with fail
  refine (planefns.sz_yes _ _ _ _ _ _ (by omega) (by omega)).mono ?_
  rintro e w3 ⟨rfl, hb⟩
  have s3 : w2.heap.size ≤ w3.heap.size := hb.size
  have n3_0 : w.heap.size < w3.heap.size := by omega
  have n3_1 : w.heap.size + 1 < w3.heap.size := by omega
  have n3_2 : w.heap.size + 1 + 1 < w3.heap.size := by omega
  have n3_3 : w.heap.size + 1 + 1 + 1 < w3.heap.size := by omega
  replace x0_0 := cell_below hb x0_0 (by omega)
  replace x0_1 := cell_below hb x0_1 (by omega)
  replace x1_0 := cell_below hb x1_0 (by omega)
  replace x1_1 := cell_below hb x1_1 (by omega)
  replace x2_0 := cell_below hb x2_0 (by omega)
  replace x2_1 := cell_below hb x2_1 (by omega)
  replace x3_0 := cell_below hb x3_0 (by omega)
  replace x3_1 := cell_below hb x3_1 (by omega)
  have HB3 := Lib.hid (HB2.out.trans (hb.mono (by omega)))
  clear hb
  go_wp2_with fail
  refine (planefns.sz_no _ _ _ _ _ _ (by omega) (by omega) (by omega) (by omega)).mono ?_
  rintro e w4 ⟨rfl, hb⟩
  have s4 : w3.heap.size ≤ w4.heap.size := hb.size
  have n4_0 : w.heap.size < w4.heap.size := by omega
  have n4_1 : w.heap.size + 1 < w4.heap.size := by omega
  have n4_2 : w.heap.size + 1 + 1 < w4.heap.size := by omega
  have n4_3 : w.heap.size + 1 + 1 + 1 < w4.heap.size := by omega
  replace x0_0 := cell_below hb x0_0 (by omega)
  replace x0_1 := cell_below hb x0_1 (by omega)
  replace x1_0 := cell_below hb x1_0 (by omega)
  replace x1_1 := cell_below hb x1_1 (by omega)
  replace x2_0 := cell_below hb x2_0 (by omega)
  replace x2_1 := cell_below hb x2_1 (by omega)
  replace x3_0 := cell_below hb x3_0 (by omega)
  replace x3_1 := cell_below hb x3_1 (by omega)
  have HB4 := Lib.hid (HB3.out.trans (hb.mono (by omega)))
  clear hb
  go_wp2_with fail
  go_ret
  exact ⟨rfl, HB4.out⟩

theorem law_big (a0 : Option Addr) (rows0 : List (List Int)) (c0 : Nat) (e0 : Option Addr) (zs0 : List Int) (d0 : Nat) (a1 : Option Addr) (zs1 : List Int) (c1 : Nat) (b1 : Int) (a2 : Option Addr) (zs2 : List Int) (c2 : Nat) (b2 : Int) (a3 : Option Addr) (zs3 : List Int) (c3 : Nat) (b3 : Int) (w : World) (hr0 : grid.Reads w a0 rows0) (hq0 : ints.Reads .i64 w e0 zs0) (hr1 : ints.Reads .i64 w a1 zs1) (hr2 : ints.Reads .i64 w a2 zs2) (hr3 : ints.Reads .i64 w a3 zs3) (hl0 : rows0.length ≤ 9223372036854775807) (hm0 : ∀ s ∈ rows0, s.length ≤ 9223372036854775807) (hk0 : zs0.length ≤ 9223372036854775807) (hl1 : zs1.length ≤ 9223372036854775807) (hl2 : zs2.length ≤ 9223372036854775807) (hl3 : zs3.length ≤ 9223372036854775807) (hx : ¬ ((rows0.length : Int) + (grid.tot rows0 : Int) + (zs0.length : Int) + (zs1.length : Int) + (zs2.length : Int) + (zs3.length : Int) ≤ 1048576)) : Calls Try.prog 14 #[.agg #[.slice a0 rows0.length c0, .slice e0 zs0.length d0], .agg #[.slice a1 zs1.length c1, .int .i64 b1], .agg #[.slice a2 zs2.length c2, .int .i64 b2], .agg #[.slice a3 zs3.length c3, .int .i64 b3]] w fun e w' => e = .returned (.bool true) ∧ Below w.heap.size w w' := by
  by_cases k0 : 1048576 < (rows0.length : Int) + (grid.tot rows0 : Int) + (zs0.length : Int)
  · exact exit_sz0 a0 rows0 c0 e0 zs0 d0 a1 zs1 c1 b1 a2 zs2 c2 b2 a3 zs3 c3 b3 w hr0 hq0 hr1 hr2 hr3 hl0 hm0 hk0 hl1 hl2 hl3   k0
  by_cases k1 : 1048576 < (rows0.length : Int) + (grid.tot rows0 : Int) + (zs0.length : Int) + (zs1.length : Int)
  · exact exit_sz1 a0 rows0 c0 e0 zs0 d0 a1 zs1 c1 b1 a2 zs2 c2 b2 a3 zs3 c3 b3 w hr0 hq0 hr1 hr2 hr3 hl0 hm0 hk0 hl1 hl2 hl3  (by omega) k1
  by_cases k2 : 1048576 < (rows0.length : Int) + (grid.tot rows0 : Int) + (zs0.length : Int) + (zs1.length : Int) + (zs2.length : Int)
  · exact exit_sz2 a0 rows0 c0 e0 zs0 d0 a1 zs1 c1 b1 a2 zs2 c2 b2 a3 zs3 c3 b3 w hr0 hq0 hr1 hr2 hr3 hl0 hm0 hk0 hl1 hl2 hl3  (by omega) k2
  by_cases k3 : 1048576 < (rows0.length : Int) + (grid.tot rows0 : Int) + (zs0.length : Int) + (zs1.length : Int) + (zs2.length : Int) + (zs3.length : Int)
  · exact exit_sz3 a0 rows0 c0 e0 zs0 d0 a1 zs1 c1 b1 a2 zs2 c2 b2 a3 zs3 c3 b3 w hr0 hq0 hr1 hr2 hr3 hl0 hm0 hk0 hl1 hl2 hl3  (by omega) k3
  · exact absurd (by omega) hx

set_option maxRecDepth 100000 in
set_option maxHeartbeats 4000000 in
theorem law_small (a0 : Option Addr) (rows0 : List (List Int)) (c0 : Nat) (e0 : Option Addr) (zs0 : List Int) (d0 : Nat) (a1 : Option Addr) (zs1 : List Int) (c1 : Nat) (b1 : Int) (a2 : Option Addr) (zs2 : List Int) (c2 : Nat) (b2 : Int) (a3 : Option Addr) (zs3 : List Int) (c3 : Nat) (b3 : Int) (r0 : List Int) (ok : Bool) (w : World) (hr0 : grid.Reads w a0 rows0) (hq0 : ints.Reads .i64 w e0 zs0) (hr1 : ints.Reads .i64 w a1 zs1) (hr2 : ints.Reads .i64 w a2 zs2) (hr3 : ints.Reads .i64 w a3 zs3) (h0 : (rows0.length : Int) + (grid.tot rows0 : Int) + (zs0.length : Int) + (zs1.length : Int) + (zs2.length : Int) + (zs3.length : Int) ≤ 1048576) (hz0 : r0.length ≤ 1048576)
    (HSpec : Hid (∀ (a0 : Option Addr) (c0 : Nat) (e0 : Option Addr) (d0 : Nat) (a1 : Option Addr) (c1 : Nat) (a2 : Option Addr) (c2 : Nat) (a3 : Option Addr) (c3 : Nat) (w : World), grid.Reads w a0 rows0 → ints.Reads .i64 w e0 zs0 → ints.Reads .i64 w a1 zs1 → zs1.length ≤ c1 → ints.Reads .i64 w a2 zs2 → zs2.length ≤ c2 → ints.Reads .i64 w a3 zs3 → zs3.length ≤ c3 → Calls Try.prog 57 #[.agg #[.slice a0 rows0.length c0, .slice e0 zs0.length d0], .agg #[.slice a1 zs1.length c1, .int .i64 b1], .agg #[.slice a2 zs2.length c2, .int .i64 b2], .agg #[.slice a3 zs3.length c3, .int .i64 b3]] w (RetIB r0 ok w)))
    (HImpl : Hid (∀ (a0 : Option Addr) (c0 : Nat) (e0 : Option Addr) (d0 : Nat) (a1 : Option Addr) (c1 : Nat) (a2 : Option Addr) (c2 : Nat) (a3 : Option Addr) (c3 : Nat) (w : World), grid.Reads w a0 rows0 → ints.Reads .i64 w e0 zs0 → ints.Reads .i64 w a1 zs1 → zs1.length ≤ c1 → ints.Reads .i64 w a2 zs2 → zs2.length ≤ c2 → ints.Reads .i64 w a3 zs3 → zs3.length ≤ c3 → Calls Try.prog 58 #[.agg #[.slice a0 rows0.length c0, .slice e0 zs0.length d0], .agg #[.slice a1 zs1.length c1, .int .i64 b1], .agg #[.slice a2 zs2.length c2, .int .i64 b2], .agg #[.slice a3 zs3.length c3, .int .i64 b3]] w (RetIB r0 ok w))) :
    Calls Try.prog 14 #[.agg #[.slice a0 rows0.length c0, .slice e0 zs0.length d0], .agg #[.slice a1 zs1.length c1, .int .i64 b1], .agg #[.slice a2 zs2.length c2, .int .i64 b2], .agg #[.slice a3 zs3.length c3, .int .i64 b3]] w fun e w' => e = .returned (.bool true) ∧ Below w.heap.size w w' := by
  have HR0 := Lib.hid hr0
  have HQ0 := Lib.hid hq0
  have HR1 := Lib.hid hr1
  have HR2 := Lib.hid hr2
  have HR3 := Lib.hid hr3
  clear hr0 hq0 hr1 hr2 hr3
  go_enter Try.func14, Try.ntmps14
  go_wp2_with fail
  have x0_0 : (w.alloc (.cells #[.slice a0 rows0.length c0, .slice e0 zs0.length d0] 33)).cell? ⟨w.heap.size, 0, none⟩ = some (.slice a0 rows0.length c0) := cell_new _ _ _ (by simp) rfl
  have x0_1 : (w.alloc (.cells #[.slice a0 rows0.length c0, .slice e0 zs0.length d0] 33)).cell? ⟨w.heap.size, 1, none⟩ = some (.slice e0 zs0.length d0) := cell_new _ _ _ (by simp) rfl
  have HB0 := Lib.hid (below_alloc w (.cells #[.slice a0 rows0.length c0, .slice e0 zs0.length d0] 33))
  have s0_0 := size_alloc' w (.cells #[.slice a0 rows0.length c0, .slice e0 zs0.length d0] 33)
  replace x0_0 := cell_old (.cells #[.slice a1 zs1.length c1, .int .i64 b1] 24) x0_0
  replace x0_1 := cell_old (.cells #[.slice a1 zs1.length c1, .int .i64 b1] 24) x0_1
  have x1_0 : ((w.alloc (.cells #[.slice a0 rows0.length c0, .slice e0 zs0.length d0] 33)).alloc (.cells #[.slice a1 zs1.length c1, .int .i64 b1] 24)).cell? ⟨w.heap.size + 1, 0, none⟩ = some (.slice a1 zs1.length c1) := cell_new _ _ _ (by simp) rfl
  have x1_1 : ((w.alloc (.cells #[.slice a0 rows0.length c0, .slice e0 zs0.length d0] 33)).alloc (.cells #[.slice a1 zs1.length c1, .int .i64 b1] 24)).cell? ⟨w.heap.size + 1, 1, none⟩ = some (.int .i64 b1) := cell_new _ _ _ (by simp) rfl
  replace HB0 := Lib.hid (HB0.out.alloc (by first | (simp; done) | (simp; omega)) (.cells #[.slice a1 zs1.length c1, .int .i64 b1] 24))
  replace x0_0 := cell_old (.cells #[.slice a2 zs2.length c2, .int .i64 b2] 24) x0_0
  replace x0_1 := cell_old (.cells #[.slice a2 zs2.length c2, .int .i64 b2] 24) x0_1
  replace x1_0 := cell_old (.cells #[.slice a2 zs2.length c2, .int .i64 b2] 24) x1_0
  replace x1_1 := cell_old (.cells #[.slice a2 zs2.length c2, .int .i64 b2] 24) x1_1
  have x2_0 : (((w.alloc (.cells #[.slice a0 rows0.length c0, .slice e0 zs0.length d0] 33)).alloc (.cells #[.slice a1 zs1.length c1, .int .i64 b1] 24)).alloc (.cells #[.slice a2 zs2.length c2, .int .i64 b2] 24)).cell? ⟨w.heap.size + 1 + 1, 0, none⟩ = some (.slice a2 zs2.length c2) := cell_new _ _ _ (by simp) rfl
  have x2_1 : (((w.alloc (.cells #[.slice a0 rows0.length c0, .slice e0 zs0.length d0] 33)).alloc (.cells #[.slice a1 zs1.length c1, .int .i64 b1] 24)).alloc (.cells #[.slice a2 zs2.length c2, .int .i64 b2] 24)).cell? ⟨w.heap.size + 1 + 1, 1, none⟩ = some (.int .i64 b2) := cell_new _ _ _ (by simp) rfl
  replace HB0 := Lib.hid (HB0.out.alloc (by first | (simp; done) | (simp; omega)) (.cells #[.slice a2 zs2.length c2, .int .i64 b2] 24))
  replace x0_0 := cell_old (.cells #[.slice a3 zs3.length c3, .int .i64 b3] 24) x0_0
  replace x0_1 := cell_old (.cells #[.slice a3 zs3.length c3, .int .i64 b3] 24) x0_1
  replace x1_0 := cell_old (.cells #[.slice a3 zs3.length c3, .int .i64 b3] 24) x1_0
  replace x1_1 := cell_old (.cells #[.slice a3 zs3.length c3, .int .i64 b3] 24) x1_1
  replace x2_0 := cell_old (.cells #[.slice a3 zs3.length c3, .int .i64 b3] 24) x2_0
  replace x2_1 := cell_old (.cells #[.slice a3 zs3.length c3, .int .i64 b3] 24) x2_1
  have x3_0 : ((((w.alloc (.cells #[.slice a0 rows0.length c0, .slice e0 zs0.length d0] 33)).alloc (.cells #[.slice a1 zs1.length c1, .int .i64 b1] 24)).alloc (.cells #[.slice a2 zs2.length c2, .int .i64 b2] 24)).alloc (.cells #[.slice a3 zs3.length c3, .int .i64 b3] 24)).cell? ⟨w.heap.size + 1 + 1 + 1, 0, none⟩ = some (.slice a3 zs3.length c3) := cell_new _ _ _ (by simp) rfl
  have x3_1 : ((((w.alloc (.cells #[.slice a0 rows0.length c0, .slice e0 zs0.length d0] 33)).alloc (.cells #[.slice a1 zs1.length c1, .int .i64 b1] 24)).alloc (.cells #[.slice a2 zs2.length c2, .int .i64 b2] 24)).alloc (.cells #[.slice a3 zs3.length c3, .int .i64 b3] 24)).cell? ⟨w.heap.size + 1 + 1 + 1, 1, none⟩ = some (.int .i64 b3) := cell_new _ _ _ (by simp) rfl
  replace HB0 := Lib.hid (HB0.out.alloc (by first | (simp; done) | (simp; omega)) (.cells #[.slice a3 zs3.length c3, .int .i64 b3] 24))
  have s0 : w.heap.size + 4 ≤ ((((w.alloc (.cells #[.slice a0 rows0.length c0, .slice e0 zs0.length d0] 33)).alloc (.cells #[.slice a1 zs1.length c1, .int .i64 b1] 24)).alloc (.cells #[.slice a2 zs2.length c2, .int .i64 b2] 24)).alloc (.cells #[.slice a3 zs3.length c3, .int .i64 b3] 24)).heap.size := by simp
  clear s0_0
  generalize hw : ((((w.alloc (.cells #[.slice a0 rows0.length c0, .slice e0 zs0.length d0] 33)).alloc (.cells #[.slice a1 zs1.length c1, .int .i64 b1] 24)).alloc (.cells #[.slice a2 zs2.length c2, .int .i64 b2] 24)).alloc (.cells #[.slice a3 zs3.length c3, .int .i64 b3] 24)) = w0 at *
  clear hw
  refine (samplefns.sz_yes _ rows0 _ _ _ _ _ _ (HR0.out.below HB0.out) (by omega) (by omega)).mono ?_
  rintro e w1 ⟨rfl, hb⟩
  have s1 : w0.heap.size ≤ w1.heap.size := hb.size
  have n1_0 : w.heap.size < w1.heap.size := by omega
  have n1_1 : w.heap.size + 1 < w1.heap.size := by omega
  have n1_2 : w.heap.size + 1 + 1 < w1.heap.size := by omega
  have n1_3 : w.heap.size + 1 + 1 + 1 < w1.heap.size := by omega
  replace x0_0 := cell_below hb x0_0 (by omega)
  replace x0_1 := cell_below hb x0_1 (by omega)
  replace x1_0 := cell_below hb x1_0 (by omega)
  replace x1_1 := cell_below hb x1_1 (by omega)
  replace x2_0 := cell_below hb x2_0 (by omega)
  replace x2_1 := cell_below hb x2_1 (by omega)
  replace x3_0 := cell_below hb x3_0 (by omega)
  replace x3_1 := cell_below hb x3_1 (by omega)
  have HB1 := Lib.hid (HB0.out.trans (hb.mono (by omega)))
  clear hb
  go_wp2_with fail
  refine (planefns.sz_yes _ _ _ _ _ _ (by omega) (by omega)).mono ?_
  rintro e w2 ⟨rfl, hb⟩
  have s2 : w1.heap.size ≤ w2.heap.size := hb.size
  have n2_0 : w.heap.size < w2.heap.size := by omega
  have n2_1 : w.heap.size + 1 < w2.heap.size := by omega
  have n2_2 : w.heap.size + 1 + 1 < w2.heap.size := by omega
  have n2_3 : w.heap.size + 1 + 1 + 1 < w2.heap.size := by omega
  replace x0_0 := cell_below hb x0_0 (by omega)
  replace x0_1 := cell_below hb x0_1 (by omega)
  replace x1_0 := cell_below hb x1_0 (by omega)
  replace x1_1 := cell_below hb x1_1 (by omega)
  replace x2_0 := cell_below hb x2_0 (by omega)
  replace x2_1 := cell_below hb x2_1 (by omega)
  replace x3_0 := cell_below hb x3_0 (by omega)
  replace x3_1 := cell_below hb x3_1 (by omega)
  have HB2 := Lib.hid (HB1.out.trans (hb.mono (by omega)))
  clear hb
  go_wp2_with fail
  refine (planefns.sz_yes _ _ _ _ _ _ (by omega) (by omega)).mono ?_
  rintro e w3 ⟨rfl, hb⟩
  have s3 : w2.heap.size ≤ w3.heap.size := hb.size
  have n3_0 : w.heap.size < w3.heap.size := by omega
  have n3_1 : w.heap.size + 1 < w3.heap.size := by omega
  have n3_2 : w.heap.size + 1 + 1 < w3.heap.size := by omega
  have n3_3 : w.heap.size + 1 + 1 + 1 < w3.heap.size := by omega
  replace x0_0 := cell_below hb x0_0 (by omega)
  replace x0_1 := cell_below hb x0_1 (by omega)
  replace x1_0 := cell_below hb x1_0 (by omega)
  replace x1_1 := cell_below hb x1_1 (by omega)
  replace x2_0 := cell_below hb x2_0 (by omega)
  replace x2_1 := cell_below hb x2_1 (by omega)
  replace x3_0 := cell_below hb x3_0 (by omega)
  replace x3_1 := cell_below hb x3_1 (by omega)
  have HB3 := Lib.hid (HB2.out.trans (hb.mono (by omega)))
  clear hb
  go_wp2_with fail
  refine (planefns.sz_yes _ _ _ _ _ _ (by omega) (by omega)).mono ?_
  rintro e w4 ⟨rfl, hb⟩
  have s4 : w3.heap.size ≤ w4.heap.size := hb.size
  have n4_0 : w.heap.size < w4.heap.size := by omega
  have n4_1 : w.heap.size + 1 < w4.heap.size := by omega
  have n4_2 : w.heap.size + 1 + 1 < w4.heap.size := by omega
  have n4_3 : w.heap.size + 1 + 1 + 1 < w4.heap.size := by omega
  replace x0_0 := cell_below hb x0_0 (by omega)
  replace x0_1 := cell_below hb x0_1 (by omega)
  replace x1_0 := cell_below hb x1_0 (by omega)
  replace x1_1 := cell_below hb x1_1 (by omega)
  replace x2_0 := cell_below hb x2_0 (by omega)
  replace x2_1 := cell_below hb x2_1 (by omega)
  replace x3_0 := cell_below hb x3_0 (by omega)
  replace x3_1 := cell_below hb x3_1 (by omega)
  have HB4 := Lib.hid (HB3.out.trans (hb.mono (by omega)))
  clear hb
  go_wp2_with fail
  have HT1 := Lib.hid (show ∀ (wa : World) , (wa.cell? ⟨w.heap.size, 0, none⟩ = some (.slice a0 rows0.length c0) ∧ wa.cell? ⟨w.heap.size, 1, none⟩ = some (.slice e0 zs0.length d0) ∧ wa.cell? ⟨w.heap.size + 1, 0, none⟩ = some (.slice a1 zs1.length c1) ∧ wa.cell? ⟨w.heap.size + 1, 1, none⟩ = some (.int .i64 b1) ∧ wa.cell? ⟨w.heap.size + 1 + 1, 0, none⟩ = some (.slice a2 zs2.length c2) ∧ wa.cell? ⟨w.heap.size + 1 + 1, 1, none⟩ = some (.int .i64 b2) ∧ wa.cell? ⟨w.heap.size + 1 + 1 + 1, 0, none⟩ = some (.slice a3 zs3.length c3) ∧ wa.cell? ⟨w.heap.size + 1 + 1 + 1, 1, none⟩ = some (.int .i64 b3) ∧ Below w4.heap.size w4 wa) → Calls Try.prog 23 #[.agg #[.slice a0 rows0.length c0, .slice e0 zs0.length d0]] wa fun e w' => ∃ p0 q0 u0 t0, e = .returned (.agg #[.slice p0 rows0.length q0, .slice u0 zs0.length t0]) ∧ grid.Reads w' p0 rows0 ∧ ints.Reads .i64 w' u0 zs0 ∧ w'.cell? ⟨w.heap.size, 0, none⟩ = some (.slice a0 rows0.length c0) ∧ w'.cell? ⟨w.heap.size, 1, none⟩ = some (.slice e0 zs0.length d0) ∧ w'.cell? ⟨w.heap.size + 1, 0, none⟩ = some (.slice a1 zs1.length c1) ∧ w'.cell? ⟨w.heap.size + 1, 1, none⟩ = some (.int .i64 b1) ∧ w'.cell? ⟨w.heap.size + 1 + 1, 0, none⟩ = some (.slice a2 zs2.length c2) ∧ w'.cell? ⟨w.heap.size + 1 + 1, 1, none⟩ = some (.int .i64 b2) ∧ w'.cell? ⟨w.heap.size + 1 + 1 + 1, 0, none⟩ = some (.slice a3 zs3.length c3) ∧ w'.cell? ⟨w.heap.size + 1 + 1 + 1, 1, none⟩ = some (.int .i64 b3) ∧ Below w4.heap.size w4 w' from fun wa  hS  => by
    have hz := hS.2.2.2.2.2.2.2.2.size
    refine (samplefns.to_any a0 rows0 c0 e0 zs0 d0 _ (HR0.out.below (HB4.out.trans (hS.2.2.2.2.2.2.2.2.mono (by omega)))) (HQ0.out.below (HB4.out.trans (hS.2.2.2.2.2.2.2.2.mono (by omega)))) (by omega) (by omega)).mono ?_
    rintro e w' ⟨v, l, rfl, ho, hb⟩
    obtain ⟨p0, q0, rfl, _, _, _⟩ := ho.grid.slice
    obtain ⟨u0, t0, rfl, _, _, _⟩ := ho.ints.slice
    exact ⟨p0, q0, u0, t0, rfl, ho.grid.reads, ho.ints.reads, cell_below hb hS.1 (by omega), cell_below hb hS.2.1 (by omega), cell_below hb hS.2.2.1 (by omega), cell_below hb hS.2.2.2.1 (by omega), cell_below hb hS.2.2.2.2.1 (by omega), cell_below hb hS.2.2.2.2.2.1 (by omega), cell_below hb hS.2.2.2.2.2.2.1 (by omega), cell_below hb hS.2.2.2.2.2.2.2.1 (by omega), hS.2.2.2.2.2.2.2.2.trans (hb.mono (by omega))⟩)
  have HT2 := Lib.hid (show ∀ (wa : World) (p0 : Option Addr) (u0 : Option Addr), (wa.cell? ⟨w.heap.size, 0, none⟩ = some (.slice a0 rows0.length c0) ∧ wa.cell? ⟨w.heap.size, 1, none⟩ = some (.slice e0 zs0.length d0) ∧ wa.cell? ⟨w.heap.size + 1, 0, none⟩ = some (.slice a1 zs1.length c1) ∧ wa.cell? ⟨w.heap.size + 1, 1, none⟩ = some (.int .i64 b1) ∧ wa.cell? ⟨w.heap.size + 1 + 1, 0, none⟩ = some (.slice a2 zs2.length c2) ∧ wa.cell? ⟨w.heap.size + 1 + 1, 1, none⟩ = some (.int .i64 b2) ∧ wa.cell? ⟨w.heap.size + 1 + 1 + 1, 0, none⟩ = some (.slice a3 zs3.length c3) ∧ wa.cell? ⟨w.heap.size + 1 + 1 + 1, 1, none⟩ = some (.int .i64 b3) ∧ Below w4.heap.size w4 wa) → grid.Reads wa p0 rows0 → ints.Reads .i64 wa u0 zs0 → Calls Try.prog 18 #[.agg #[.slice a1 zs1.length c1, .int .i64 b1]] wa fun e w' => ∃ p1 q1, e = .returned (.agg #[.slice p1 zs1.length q1, .int .i64 b1]) ∧ ints.Reads .i64 w' p1 zs1 ∧ zs1.length ≤ q1 ∧ grid.Reads w' p0 rows0 ∧ ints.Reads .i64 w' u0 zs0 ∧ w'.cell? ⟨w.heap.size, 0, none⟩ = some (.slice a0 rows0.length c0) ∧ w'.cell? ⟨w.heap.size, 1, none⟩ = some (.slice e0 zs0.length d0) ∧ w'.cell? ⟨w.heap.size + 1, 0, none⟩ = some (.slice a1 zs1.length c1) ∧ w'.cell? ⟨w.heap.size + 1, 1, none⟩ = some (.int .i64 b1) ∧ w'.cell? ⟨w.heap.size + 1 + 1, 0, none⟩ = some (.slice a2 zs2.length c2) ∧ w'.cell? ⟨w.heap.size + 1 + 1, 1, none⟩ = some (.int .i64 b2) ∧ w'.cell? ⟨w.heap.size + 1 + 1 + 1, 0, none⟩ = some (.slice a3 zs3.length c3) ∧ w'.cell? ⟨w.heap.size + 1 + 1 + 1, 1, none⟩ = some (.int .i64 b3) ∧ Below w4.heap.size w4 w' from fun wa p0 u0 hS k0 k1 => by
    have hz := hS.2.2.2.2.2.2.2.2.size
    refine (planefns.to_any a1 zs1 c1 b1 _ (HR1.out.below (HB4.out.trans (hS.2.2.2.2.2.2.2.2.mono (by omega)))) (by omega)).mono ?_
    rintro e w' ⟨v, rfl, ho, hb⟩
    obtain ⟨p1, q1, rfl, _, hcap9, _⟩ := ho.slice
    exact ⟨p1, q1, rfl, ho.reads, hcap9, k0.below hb, k1.below hb, cell_below hb hS.1 (by omega), cell_below hb hS.2.1 (by omega), cell_below hb hS.2.2.1 (by omega), cell_below hb hS.2.2.2.1 (by omega), cell_below hb hS.2.2.2.2.1 (by omega), cell_below hb hS.2.2.2.2.2.1 (by omega), cell_below hb hS.2.2.2.2.2.2.1 (by omega), cell_below hb hS.2.2.2.2.2.2.2.1 (by omega), hS.2.2.2.2.2.2.2.2.trans (hb.mono (by omega))⟩)
  have HT3 := Lib.hid (show ∀ (wa : World) (p0 : Option Addr) (u0 : Option Addr) (p1 : Option Addr) (q1 : Nat), (wa.cell? ⟨w.heap.size, 0, none⟩ = some (.slice a0 rows0.length c0) ∧ wa.cell? ⟨w.heap.size, 1, none⟩ = some (.slice e0 zs0.length d0) ∧ wa.cell? ⟨w.heap.size + 1, 0, none⟩ = some (.slice a1 zs1.length c1) ∧ wa.cell? ⟨w.heap.size + 1, 1, none⟩ = some (.int .i64 b1) ∧ wa.cell? ⟨w.heap.size + 1 + 1, 0, none⟩ = some (.slice a2 zs2.length c2) ∧ wa.cell? ⟨w.heap.size + 1 + 1, 1, none⟩ = some (.int .i64 b2) ∧ wa.cell? ⟨w.heap.size + 1 + 1 + 1, 0, none⟩ = some (.slice a3 zs3.length c3) ∧ wa.cell? ⟨w.heap.size + 1 + 1 + 1, 1, none⟩ = some (.int .i64 b3) ∧ Below w4.heap.size w4 wa) → ints.Reads .i64 wa p1 zs1 → zs1.length ≤ q1 → grid.Reads wa p0 rows0 → ints.Reads .i64 wa u0 zs0 → Calls Try.prog 18 #[.agg #[.slice a2 zs2.length c2, .int .i64 b2]] wa fun e w' => ∃ p2 q2, e = .returned (.agg #[.slice p2 zs2.length q2, .int .i64 b2]) ∧ ints.Reads .i64 w' p2 zs2 ∧ zs2.length ≤ q2 ∧ ints.Reads .i64 w' p1 zs1 ∧ zs1.length ≤ q1 ∧ grid.Reads w' p0 rows0 ∧ ints.Reads .i64 w' u0 zs0 ∧ w'.cell? ⟨w.heap.size, 0, none⟩ = some (.slice a0 rows0.length c0) ∧ w'.cell? ⟨w.heap.size, 1, none⟩ = some (.slice e0 zs0.length d0) ∧ w'.cell? ⟨w.heap.size + 1, 0, none⟩ = some (.slice a1 zs1.length c1) ∧ w'.cell? ⟨w.heap.size + 1, 1, none⟩ = some (.int .i64 b1) ∧ w'.cell? ⟨w.heap.size + 1 + 1, 0, none⟩ = some (.slice a2 zs2.length c2) ∧ w'.cell? ⟨w.heap.size + 1 + 1, 1, none⟩ = some (.int .i64 b2) ∧ w'.cell? ⟨w.heap.size + 1 + 1 + 1, 0, none⟩ = some (.slice a3 zs3.length c3) ∧ w'.cell? ⟨w.heap.size + 1 + 1 + 1, 1, none⟩ = some (.int .i64 b3) ∧ Below w4.heap.size w4 w' from fun wa p0 u0 p1 q1 hS k0 k1 k2 k3 => by
    have hz := hS.2.2.2.2.2.2.2.2.size
    refine (planefns.to_any a2 zs2 c2 b2 _ (HR2.out.below (HB4.out.trans (hS.2.2.2.2.2.2.2.2.mono (by omega)))) (by omega)).mono ?_
    rintro e w' ⟨v, rfl, ho, hb⟩
    obtain ⟨p2, q2, rfl, _, hcap9, _⟩ := ho.slice
    exact ⟨p2, q2, rfl, ho.reads, hcap9, k0.below hb, k1, k2.below hb, k3.below hb, cell_below hb hS.1 (by omega), cell_below hb hS.2.1 (by omega), cell_below hb hS.2.2.1 (by omega), cell_below hb hS.2.2.2.1 (by omega), cell_below hb hS.2.2.2.2.1 (by omega), cell_below hb hS.2.2.2.2.2.1 (by omega), cell_below hb hS.2.2.2.2.2.2.1 (by omega), cell_below hb hS.2.2.2.2.2.2.2.1 (by omega), hS.2.2.2.2.2.2.2.2.trans (hb.mono (by omega))⟩)
  have HT4 := Lib.hid (show ∀ (wa : World) (p0 : Option Addr) (u0 : Option Addr) (p1 : Option Addr) (q1 : Nat) (p2 : Option Addr) (q2 : Nat), (wa.cell? ⟨w.heap.size, 0, none⟩ = some (.slice a0 rows0.length c0) ∧ wa.cell? ⟨w.heap.size, 1, none⟩ = some (.slice e0 zs0.length d0) ∧ wa.cell? ⟨w.heap.size + 1, 0, none⟩ = some (.slice a1 zs1.length c1) ∧ wa.cell? ⟨w.heap.size + 1, 1, none⟩ = some (.int .i64 b1) ∧ wa.cell? ⟨w.heap.size + 1 + 1, 0, none⟩ = some (.slice a2 zs2.length c2) ∧ wa.cell? ⟨w.heap.size + 1 + 1, 1, none⟩ = some (.int .i64 b2) ∧ wa.cell? ⟨w.heap.size + 1 + 1 + 1, 0, none⟩ = some (.slice a3 zs3.length c3) ∧ wa.cell? ⟨w.heap.size + 1 + 1 + 1, 1, none⟩ = some (.int .i64 b3) ∧ Below w4.heap.size w4 wa) → ints.Reads .i64 wa p2 zs2 → zs2.length ≤ q2 → ints.Reads .i64 wa p1 zs1 → zs1.length ≤ q1 → grid.Reads wa p0 rows0 → ints.Reads .i64 wa u0 zs0 → Calls Try.prog 18 #[.agg #[.slice a3 zs3.length c3, .int .i64 b3]] wa fun e w' => ∃ p3 q3, e = .returned (.agg #[.slice p3 zs3.length q3, .int .i64 b3]) ∧ ints.Reads .i64 w' p3 zs3 ∧ zs3.length ≤ q3 ∧ ints.Reads .i64 w' p2 zs2 ∧ zs2.length ≤ q2 ∧ ints.Reads .i64 w' p1 zs1 ∧ zs1.length ≤ q1 ∧ grid.Reads w' p0 rows0 ∧ ints.Reads .i64 w' u0 zs0 ∧ w'.cell? ⟨w.heap.size, 0, none⟩ = some (.slice a0 rows0.length c0) ∧ w'.cell? ⟨w.heap.size, 1, none⟩ = some (.slice e0 zs0.length d0) ∧ w'.cell? ⟨w.heap.size + 1, 0, none⟩ = some (.slice a1 zs1.length c1) ∧ w'.cell? ⟨w.heap.size + 1, 1, none⟩ = some (.int .i64 b1) ∧ w'.cell? ⟨w.heap.size + 1 + 1, 0, none⟩ = some (.slice a2 zs2.length c2) ∧ w'.cell? ⟨w.heap.size + 1 + 1, 1, none⟩ = some (.int .i64 b2) ∧ w'.cell? ⟨w.heap.size + 1 + 1 + 1, 0, none⟩ = some (.slice a3 zs3.length c3) ∧ w'.cell? ⟨w.heap.size + 1 + 1 + 1, 1, none⟩ = some (.int .i64 b3) ∧ Below w4.heap.size w4 w' from fun wa p0 u0 p1 q1 p2 q2 hS k0 k1 k2 k3 k4 k5 => by
    have hz := hS.2.2.2.2.2.2.2.2.size
    refine (planefns.to_any a3 zs3 c3 b3 _ (HR3.out.below (HB4.out.trans (hS.2.2.2.2.2.2.2.2.mono (by omega)))) (by omega)).mono ?_
    rintro e w' ⟨v, rfl, ho, hb⟩
    obtain ⟨p3, q3, rfl, _, hcap9, _⟩ := ho.slice
    exact ⟨p3, q3, rfl, ho.reads, hcap9, k0.below hb, k1, k2.below hb, k3, k4.below hb, k5.below hb, cell_below hb hS.1 (by omega), cell_below hb hS.2.1 (by omega), cell_below hb hS.2.2.1 (by omega), cell_below hb hS.2.2.2.1 (by omega), cell_below hb hS.2.2.2.2.1 (by omega), cell_below hb hS.2.2.2.2.2.1 (by omega), cell_below hb hS.2.2.2.2.2.2.1 (by omega), cell_below hb hS.2.2.2.2.2.2.2.1 (by omega), hS.2.2.2.2.2.2.2.2.trans (hb.mono (by omega))⟩)
  have HT5 := Lib.hid (show ∀ (wa : World) (p0 : Option Addr) (q0 : Nat) (u0 : Option Addr) (t0 : Nat) (p1 : Option Addr) (q1 : Nat) (p2 : Option Addr) (q2 : Nat) (p3 : Option Addr) (q3 : Nat), (wa.cell? ⟨w.heap.size, 0, none⟩ = some (.slice a0 rows0.length c0) ∧ wa.cell? ⟨w.heap.size, 1, none⟩ = some (.slice e0 zs0.length d0) ∧ wa.cell? ⟨w.heap.size + 1, 0, none⟩ = some (.slice a1 zs1.length c1) ∧ wa.cell? ⟨w.heap.size + 1, 1, none⟩ = some (.int .i64 b1) ∧ wa.cell? ⟨w.heap.size + 1 + 1, 0, none⟩ = some (.slice a2 zs2.length c2) ∧ wa.cell? ⟨w.heap.size + 1 + 1, 1, none⟩ = some (.int .i64 b2) ∧ wa.cell? ⟨w.heap.size + 1 + 1 + 1, 0, none⟩ = some (.slice a3 zs3.length c3) ∧ wa.cell? ⟨w.heap.size + 1 + 1 + 1, 1, none⟩ = some (.int .i64 b3) ∧ Below w4.heap.size w4 wa) → ints.Reads .i64 wa p3 zs3 → zs3.length ≤ q3 → ints.Reads .i64 wa p2 zs2 → zs2.length ≤ q2 → ints.Reads .i64 wa p1 zs1 → zs1.length ≤ q1 → grid.Reads wa p0 rows0 → ints.Reads .i64 wa u0 zs0 → Calls Try.prog 57 #[.agg #[.slice p0 rows0.length q0, .slice u0 zs0.length t0], .agg #[.slice p1 zs1.length q1, .int .i64 b1], .agg #[.slice p2 zs2.length q2, .int .i64 b2], .agg #[.slice p3 zs3.length q3, .int .i64 b3]] wa fun e w' => ∃ va vc, e = .returned (.tuple #[.slice va r0.length vc, .bool ok]) ∧ OwnI w4.heap.size w'.heap.size w' (.slice va r0.length vc) r0 ∧ w'.cell? ⟨w.heap.size, 0, none⟩ = some (.slice a0 rows0.length c0) ∧ w'.cell? ⟨w.heap.size, 1, none⟩ = some (.slice e0 zs0.length d0) ∧ w'.cell? ⟨w.heap.size + 1, 0, none⟩ = some (.slice a1 zs1.length c1) ∧ w'.cell? ⟨w.heap.size + 1, 1, none⟩ = some (.int .i64 b1) ∧ w'.cell? ⟨w.heap.size + 1 + 1, 0, none⟩ = some (.slice a2 zs2.length c2) ∧ w'.cell? ⟨w.heap.size + 1 + 1, 1, none⟩ = some (.int .i64 b2) ∧ w'.cell? ⟨w.heap.size + 1 + 1 + 1, 0, none⟩ = some (.slice a3 zs3.length c3) ∧ w'.cell? ⟨w.heap.size + 1 + 1 + 1, 1, none⟩ = some (.int .i64 b3) ∧ Below w4.heap.size w4 w' from fun wa p0 q0 u0 t0 p1 q1 p2 q2 p3 q3 hS k0 k1 k2 k3 k4 k5 k6 k7 => by
    have hz := hS.2.2.2.2.2.2.2.2.size
    refine (HSpec.out _ _ _ _ _ _ _ _ _ _ _ k6 k7 k4 k5 k2 k3 k0 k1).mono ?_
    rintro e w' ⟨v, rfl, ho, hb⟩
    obtain ⟨va, vc, rfl, _, _, _⟩ := ho.slice
    exact ⟨va, vc, rfl, ho.mono hz (Nat.le_refl _), cell_below hb hS.1 (by omega), cell_below hb hS.2.1 (by omega), cell_below hb hS.2.2.1 (by omega), cell_below hb hS.2.2.2.1 (by omega), cell_below hb hS.2.2.2.2.1 (by omega), cell_below hb hS.2.2.2.2.2.1 (by omega), cell_below hb hS.2.2.2.2.2.2.1 (by omega), cell_below hb hS.2.2.2.2.2.2.2.1 (by omega), hS.2.2.2.2.2.2.2.2.trans (hb.mono (by omega))⟩)
  go_region_held3 (fun w' => w'.cell? ⟨w.heap.size, 0, none⟩ = some (.slice a0 rows0.length c0) ∧ w'.cell? ⟨w.heap.size, 1, none⟩ = some (.slice e0 zs0.length d0) ∧ w'.cell? ⟨w.heap.size + 1, 0, none⟩ = some (.slice a1 zs1.length c1) ∧ w'.cell? ⟨w.heap.size + 1, 1, none⟩ = some (.int .i64 b1) ∧ w'.cell? ⟨w.heap.size + 1 + 1, 0, none⟩ = some (.slice a2 zs2.length c2) ∧ w'.cell? ⟨w.heap.size + 1 + 1, 1, none⟩ = some (.int .i64 b2) ∧ w'.cell? ⟨w.heap.size + 1 + 1 + 1, 0, none⟩ = some (.slice a3 zs3.length c3) ∧ w'.cell? ⟨w.heap.size + 1 + 1 + 1, 1, none⟩ = some (.int .i64 b3) ∧ Below w4.heap.size w4 w') (first | assumption | exact ⟨x0_0, x0_1, x1_0, x1_1, x2_0, x2_1, x3_0, x3_1, Below.refl _ _⟩ | exact ⟨x0_0, x0_1, x1_0, x1_1, x2_0, x2_1, x3_0, x3_1, (Below.refl _ _).drew⟩) (first | (go_at_call 23; refine Calls.mono (HT1.out _  (by assumption)) ?_; rintro e w' ⟨p0, q0, u0, t0, rfl, m1_0, m1_1, hbx⟩) | (go_at_call_of 18 (Value.agg #[.slice a1 zs1.length c1, .int .i64 b1]); refine Calls.mono (HT2.out _ _ _ (by assumption) (by assumption) (by assumption)) ?_; rintro e w' ⟨p1, q1, rfl, m2_0, m2_1, m2_2, m2_3, hbx⟩) | (go_at_call_of 18 (Value.agg #[.slice a2 zs2.length c2, .int .i64 b2]); refine Calls.mono (HT3.out _ _ _ _ _ (by assumption) (by assumption) (by assumption) (by assumption) (by assumption)) ?_; rintro e w' ⟨p2, q2, rfl, m3_0, m3_1, m3_2, m3_3, m3_4, m3_5, hbx⟩) | (go_at_call_of 18 (Value.agg #[.slice a3 zs3.length c3, .int .i64 b3]); refine Calls.mono (HT4.out _ _ _ _ _ _ _ (by assumption) (by assumption) (by assumption) (by assumption) (by assumption) (by assumption) (by assumption)) ?_; rintro e w' ⟨p3, q3, rfl, m4_0, m4_1, m4_2, m4_3, m4_4, m4_5, m4_6, m4_7, hbx⟩) | (go_at_call 57; refine Calls.mono (HT5.out _ _ _ _ _ _ _ _ _ _ _ (by assumption) (by assumption) (by assumption) (by assumption) (by assumption) (by assumption) (by assumption) (by assumption) (by assumption)) ?_; rintro e w5 ⟨va, vc, rfl, ho, hbx⟩))
  obtain ⟨_, _, _, _, _, _, _, _, hb⟩ := hbx
  have s5 : w4.heap.size ≤ w5.heap.size := hb.size
  have n5_0 : w.heap.size < w5.heap.size := by omega
  have n5_1 : w.heap.size + 1 < w5.heap.size := by omega
  have n5_2 : w.heap.size + 1 + 1 < w5.heap.size := by omega
  have n5_3 : w.heap.size + 1 + 1 + 1 < w5.heap.size := by omega
  replace x0_0 := cell_below hb x0_0 (by omega)
  replace x0_1 := cell_below hb x0_1 (by omega)
  replace x1_0 := cell_below hb x1_0 (by omega)
  replace x1_1 := cell_below hb x1_1 (by omega)
  replace x2_0 := cell_below hb x2_0 (by omega)
  replace x2_1 := cell_below hb x2_1 (by omega)
  replace x3_0 := cell_below hb x3_0 (by omega)
  replace x3_1 := cell_below hb x3_1 (by omega)
  have HB5 := Lib.hid (HB4.out.trans (hb.mono (by omega)))
  clear hb
  clear HT1 HT2 HT3 HT4 HT5
  have Ov := Lib.hid ho
  clear ho
  go_wp2_with fail
  refine (samplefns.to_any a0 rows0 c0 e0 zs0 d0 _ (HR0.out.below HB5.out) (HQ0.out.below HB5.out) (by omega) (by omega)).mono ?_
  rintro e w6 ⟨v, l, rfl, ho, hb⟩
  obtain ⟨x0a, x0c, rfl, _, _, _⟩ := ho.grid.slice
  obtain ⟨x0e, x0d, rfl, _, _, _⟩ := ho.ints.slice
  have s6 : w5.heap.size ≤ w6.heap.size := hb.size
  have n6_0 : w.heap.size < w6.heap.size := by omega
  have n6_1 : w.heap.size + 1 < w6.heap.size := by omega
  have n6_2 : w.heap.size + 1 + 1 < w6.heap.size := by omega
  have n6_3 : w.heap.size + 1 + 1 + 1 < w6.heap.size := by omega
  replace x0_0 := cell_below hb x0_0 (by omega)
  replace x0_1 := cell_below hb x0_1 (by omega)
  replace x1_0 := cell_below hb x1_0 (by omega)
  replace x1_1 := cell_below hb x1_1 (by omega)
  replace x2_0 := cell_below hb x2_0 (by omega)
  replace x2_1 := cell_below hb x2_1 (by omega)
  replace x3_0 := cell_below hb x3_0 (by omega)
  replace x3_1 := cell_below hb x3_1 (by omega)
  have HB6 := Lib.hid (HB5.out.trans (hb.mono (by omega)))
  replace Ov := Lib.hid (Ov.out.below hb)
  clear hb
  have Ox0 := Lib.hid ho
  clear ho
  go_wp2_with fail
  have p0_0 : (w6.alloc (.cells #[.slice x0a rows0.length x0c, .slice x0e zs0.length x0d] 38)).cell? ⟨w6.heap.size, 0, none⟩ = some (.slice x0a rows0.length x0c) := cell_new _ _ _ rfl rfl
  have p0_1 : (w6.alloc (.cells #[.slice x0a rows0.length x0c, .slice x0e zs0.length x0d] 38)).cell? ⟨w6.heap.size, 1, none⟩ = some (.slice x0e zs0.length x0d) := cell_new _ _ _ rfl rfl
  have hb := below_alloc w6 (.cells #[.slice x0a rows0.length x0c, .slice x0e zs0.length x0d] 38)
  have z7 := size_alloc' w6 (.cells #[.slice x0a rows0.length x0c, .slice x0e zs0.length x0d] 38)
  generalize hw : w6.alloc (.cells #[.slice x0a rows0.length x0c, .slice x0e zs0.length x0d] 38) = w7 at *
  clear hw
  have s7 : w6.heap.size ≤ w7.heap.size := hb.size
  have n7_0 : w.heap.size < w7.heap.size := by omega
  have n7_1 : w.heap.size + 1 < w7.heap.size := by omega
  have n7_2 : w.heap.size + 1 + 1 < w7.heap.size := by omega
  have n7_3 : w.heap.size + 1 + 1 + 1 < w7.heap.size := by omega
  replace x0_0 := cell_below hb x0_0 (by omega)
  replace x0_1 := cell_below hb x0_1 (by omega)
  replace x1_0 := cell_below hb x1_0 (by omega)
  replace x1_1 := cell_below hb x1_1 (by omega)
  replace x2_0 := cell_below hb x2_0 (by omega)
  replace x2_1 := cell_below hb x2_1 (by omega)
  replace x3_0 := cell_below hb x3_0 (by omega)
  replace x3_1 := cell_below hb x3_1 (by omega)
  have HB7 := Lib.hid (HB6.out.trans (hb.mono (by omega)))
  replace Ov := Lib.hid (Ov.out.below hb)
  replace Ox0 := Lib.hid (Ox0.out.below hb)
  clear hb
  refine (planefns.to_any a1 zs1 c1 b1 _ (HR1.out.below HB7.out) (by omega)).mono ?_
  rintro e w8 ⟨v, rfl, ho, hb⟩
  obtain ⟨x1a, x1c, rfl, _, hcOx1, _⟩ := ho.slice
  have s8 : w7.heap.size ≤ w8.heap.size := hb.size
  have n8_0 : w.heap.size < w8.heap.size := by omega
  have n8_1 : w.heap.size + 1 < w8.heap.size := by omega
  have n8_2 : w.heap.size + 1 + 1 < w8.heap.size := by omega
  have n8_3 : w.heap.size + 1 + 1 + 1 < w8.heap.size := by omega
  have n8_4 : w6.heap.size < w8.heap.size := by omega
  replace x0_0 := cell_below hb x0_0 (by omega)
  replace x0_1 := cell_below hb x0_1 (by omega)
  replace x1_0 := cell_below hb x1_0 (by omega)
  replace x1_1 := cell_below hb x1_1 (by omega)
  replace x2_0 := cell_below hb x2_0 (by omega)
  replace x2_1 := cell_below hb x2_1 (by omega)
  replace x3_0 := cell_below hb x3_0 (by omega)
  replace x3_1 := cell_below hb x3_1 (by omega)
  replace p0_0 := cell_below hb p0_0 (by omega)
  replace p0_1 := cell_below hb p0_1 (by omega)
  have HB8 := Lib.hid (HB7.out.trans (hb.mono (by omega)))
  replace Ov := Lib.hid (Ov.out.below hb)
  replace Ox0 := Lib.hid (Ox0.out.below hb)
  clear hb
  have Ox1 := Lib.hid ho
  clear ho
  go_wp2_with fail
  have p1_0 : (w8.alloc (.cells #[.slice x1a zs1.length x1c, .int .i64 b1] 27)).cell? ⟨w8.heap.size, 0, none⟩ = some (.slice x1a zs1.length x1c) := cell_new _ _ _ rfl rfl
  have p1_1 : (w8.alloc (.cells #[.slice x1a zs1.length x1c, .int .i64 b1] 27)).cell? ⟨w8.heap.size, 1, none⟩ = some (.int .i64 b1) := cell_new _ _ _ rfl rfl
  have hb := below_alloc w8 (.cells #[.slice x1a zs1.length x1c, .int .i64 b1] 27)
  have z9 := size_alloc' w8 (.cells #[.slice x1a zs1.length x1c, .int .i64 b1] 27)
  generalize hw : w8.alloc (.cells #[.slice x1a zs1.length x1c, .int .i64 b1] 27) = w9 at *
  clear hw
  have s9 : w8.heap.size ≤ w9.heap.size := hb.size
  have n9_0 : w.heap.size < w9.heap.size := by omega
  have n9_1 : w.heap.size + 1 < w9.heap.size := by omega
  have n9_2 : w.heap.size + 1 + 1 < w9.heap.size := by omega
  have n9_3 : w.heap.size + 1 + 1 + 1 < w9.heap.size := by omega
  have n9_4 : w6.heap.size < w9.heap.size := by omega
  replace x0_0 := cell_below hb x0_0 (by omega)
  replace x0_1 := cell_below hb x0_1 (by omega)
  replace x1_0 := cell_below hb x1_0 (by omega)
  replace x1_1 := cell_below hb x1_1 (by omega)
  replace x2_0 := cell_below hb x2_0 (by omega)
  replace x2_1 := cell_below hb x2_1 (by omega)
  replace x3_0 := cell_below hb x3_0 (by omega)
  replace x3_1 := cell_below hb x3_1 (by omega)
  replace p0_0 := cell_below hb p0_0 (by omega)
  replace p0_1 := cell_below hb p0_1 (by omega)
  have HB9 := Lib.hid (HB8.out.trans (hb.mono (by omega)))
  replace Ov := Lib.hid (Ov.out.below hb)
  replace Ox0 := Lib.hid (Ox0.out.below hb)
  replace Ox1 := Lib.hid (Ox1.out.below hb)
  clear hb
  refine (planefns.to_any a2 zs2 c2 b2 _ (HR2.out.below HB9.out) (by omega)).mono ?_
  rintro e w10 ⟨v, rfl, ho, hb⟩
  obtain ⟨x2a, x2c, rfl, _, hcOx2, _⟩ := ho.slice
  have s10 : w9.heap.size ≤ w10.heap.size := hb.size
  have n10_0 : w.heap.size < w10.heap.size := by omega
  have n10_1 : w.heap.size + 1 < w10.heap.size := by omega
  have n10_2 : w.heap.size + 1 + 1 < w10.heap.size := by omega
  have n10_3 : w.heap.size + 1 + 1 + 1 < w10.heap.size := by omega
  have n10_4 : w6.heap.size < w10.heap.size := by omega
  have n10_5 : w8.heap.size < w10.heap.size := by omega
  replace x0_0 := cell_below hb x0_0 (by omega)
  replace x0_1 := cell_below hb x0_1 (by omega)
  replace x1_0 := cell_below hb x1_0 (by omega)
  replace x1_1 := cell_below hb x1_1 (by omega)
  replace x2_0 := cell_below hb x2_0 (by omega)
  replace x2_1 := cell_below hb x2_1 (by omega)
  replace x3_0 := cell_below hb x3_0 (by omega)
  replace x3_1 := cell_below hb x3_1 (by omega)
  replace p0_0 := cell_below hb p0_0 (by omega)
  replace p0_1 := cell_below hb p0_1 (by omega)
  replace p1_0 := cell_below hb p1_0 (by omega)
  replace p1_1 := cell_below hb p1_1 (by omega)
  have HB10 := Lib.hid (HB9.out.trans (hb.mono (by omega)))
  replace Ov := Lib.hid (Ov.out.below hb)
  replace Ox0 := Lib.hid (Ox0.out.below hb)
  replace Ox1 := Lib.hid (Ox1.out.below hb)
  clear hb
  have Ox2 := Lib.hid ho
  clear ho
  go_wp2_with fail
  have p2_0 : (w10.alloc (.cells #[.slice x2a zs2.length x2c, .int .i64 b2] 27)).cell? ⟨w10.heap.size, 0, none⟩ = some (.slice x2a zs2.length x2c) := cell_new _ _ _ rfl rfl
  have p2_1 : (w10.alloc (.cells #[.slice x2a zs2.length x2c, .int .i64 b2] 27)).cell? ⟨w10.heap.size, 1, none⟩ = some (.int .i64 b2) := cell_new _ _ _ rfl rfl
  have hb := below_alloc w10 (.cells #[.slice x2a zs2.length x2c, .int .i64 b2] 27)
  have z11 := size_alloc' w10 (.cells #[.slice x2a zs2.length x2c, .int .i64 b2] 27)
  generalize hw : w10.alloc (.cells #[.slice x2a zs2.length x2c, .int .i64 b2] 27) = w11 at *
  clear hw
  have s11 : w10.heap.size ≤ w11.heap.size := hb.size
  have n11_0 : w.heap.size < w11.heap.size := by omega
  have n11_1 : w.heap.size + 1 < w11.heap.size := by omega
  have n11_2 : w.heap.size + 1 + 1 < w11.heap.size := by omega
  have n11_3 : w.heap.size + 1 + 1 + 1 < w11.heap.size := by omega
  have n11_4 : w6.heap.size < w11.heap.size := by omega
  have n11_5 : w8.heap.size < w11.heap.size := by omega
  replace x0_0 := cell_below hb x0_0 (by omega)
  replace x0_1 := cell_below hb x0_1 (by omega)
  replace x1_0 := cell_below hb x1_0 (by omega)
  replace x1_1 := cell_below hb x1_1 (by omega)
  replace x2_0 := cell_below hb x2_0 (by omega)
  replace x2_1 := cell_below hb x2_1 (by omega)
  replace x3_0 := cell_below hb x3_0 (by omega)
  replace x3_1 := cell_below hb x3_1 (by omega)
  replace p0_0 := cell_below hb p0_0 (by omega)
  replace p0_1 := cell_below hb p0_1 (by omega)
  replace p1_0 := cell_below hb p1_0 (by omega)
  replace p1_1 := cell_below hb p1_1 (by omega)
  have HB11 := Lib.hid (HB10.out.trans (hb.mono (by omega)))
  replace Ov := Lib.hid (Ov.out.below hb)
  replace Ox0 := Lib.hid (Ox0.out.below hb)
  replace Ox1 := Lib.hid (Ox1.out.below hb)
  replace Ox2 := Lib.hid (Ox2.out.below hb)
  clear hb
  refine (planefns.to_any a3 zs3 c3 b3 _ (HR3.out.below HB11.out) (by omega)).mono ?_
  rintro e w12 ⟨v, rfl, ho, hb⟩
  obtain ⟨x3a, x3c, rfl, _, hcOx3, _⟩ := ho.slice
  have s12 : w11.heap.size ≤ w12.heap.size := hb.size
  have n12_0 : w.heap.size < w12.heap.size := by omega
  have n12_1 : w.heap.size + 1 < w12.heap.size := by omega
  have n12_2 : w.heap.size + 1 + 1 < w12.heap.size := by omega
  have n12_3 : w.heap.size + 1 + 1 + 1 < w12.heap.size := by omega
  have n12_4 : w6.heap.size < w12.heap.size := by omega
  have n12_5 : w8.heap.size < w12.heap.size := by omega
  have n12_6 : w10.heap.size < w12.heap.size := by omega
  replace x0_0 := cell_below hb x0_0 (by omega)
  replace x0_1 := cell_below hb x0_1 (by omega)
  replace x1_0 := cell_below hb x1_0 (by omega)
  replace x1_1 := cell_below hb x1_1 (by omega)
  replace x2_0 := cell_below hb x2_0 (by omega)
  replace x2_1 := cell_below hb x2_1 (by omega)
  replace x3_0 := cell_below hb x3_0 (by omega)
  replace x3_1 := cell_below hb x3_1 (by omega)
  replace p0_0 := cell_below hb p0_0 (by omega)
  replace p0_1 := cell_below hb p0_1 (by omega)
  replace p1_0 := cell_below hb p1_0 (by omega)
  replace p1_1 := cell_below hb p1_1 (by omega)
  replace p2_0 := cell_below hb p2_0 (by omega)
  replace p2_1 := cell_below hb p2_1 (by omega)
  have HB12 := Lib.hid (HB11.out.trans (hb.mono (by omega)))
  replace Ov := Lib.hid (Ov.out.below hb)
  replace Ox0 := Lib.hid (Ox0.out.below hb)
  replace Ox1 := Lib.hid (Ox1.out.below hb)
  replace Ox2 := Lib.hid (Ox2.out.below hb)
  clear hb
  have Ox3 := Lib.hid ho
  clear ho
  go_wp2_with fail
  have p3_0 : (w12.alloc (.cells #[.slice x3a zs3.length x3c, .int .i64 b3] 27)).cell? ⟨w12.heap.size, 0, none⟩ = some (.slice x3a zs3.length x3c) := cell_new _ _ _ rfl rfl
  have p3_1 : (w12.alloc (.cells #[.slice x3a zs3.length x3c, .int .i64 b3] 27)).cell? ⟨w12.heap.size, 1, none⟩ = some (.int .i64 b3) := cell_new _ _ _ rfl rfl
  have hb := below_alloc w12 (.cells #[.slice x3a zs3.length x3c, .int .i64 b3] 27)
  have z13 := size_alloc' w12 (.cells #[.slice x3a zs3.length x3c, .int .i64 b3] 27)
  generalize hw : w12.alloc (.cells #[.slice x3a zs3.length x3c, .int .i64 b3] 27) = w13 at *
  clear hw
  have s13 : w12.heap.size ≤ w13.heap.size := hb.size
  have n13_0 : w.heap.size < w13.heap.size := by omega
  have n13_1 : w.heap.size + 1 < w13.heap.size := by omega
  have n13_2 : w.heap.size + 1 + 1 < w13.heap.size := by omega
  have n13_3 : w.heap.size + 1 + 1 + 1 < w13.heap.size := by omega
  have n13_4 : w6.heap.size < w13.heap.size := by omega
  have n13_5 : w8.heap.size < w13.heap.size := by omega
  have n13_6 : w10.heap.size < w13.heap.size := by omega
  replace x0_0 := cell_below hb x0_0 (by omega)
  replace x0_1 := cell_below hb x0_1 (by omega)
  replace x1_0 := cell_below hb x1_0 (by omega)
  replace x1_1 := cell_below hb x1_1 (by omega)
  replace x2_0 := cell_below hb x2_0 (by omega)
  replace x2_1 := cell_below hb x2_1 (by omega)
  replace x3_0 := cell_below hb x3_0 (by omega)
  replace x3_1 := cell_below hb x3_1 (by omega)
  replace p0_0 := cell_below hb p0_0 (by omega)
  replace p0_1 := cell_below hb p0_1 (by omega)
  replace p1_0 := cell_below hb p1_0 (by omega)
  replace p1_1 := cell_below hb p1_1 (by omega)
  replace p2_0 := cell_below hb p2_0 (by omega)
  replace p2_1 := cell_below hb p2_1 (by omega)
  have HB13 := Lib.hid (HB12.out.trans (hb.mono (by omega)))
  replace Ov := Lib.hid (Ov.out.below hb)
  replace Ox0 := Lib.hid (Ox0.out.below hb)
  replace Ox1 := Lib.hid (Ox1.out.below hb)
  replace Ox2 := Lib.hid (Ox2.out.below hb)
  replace Ox3 := Lib.hid (Ox3.out.below hb)
  clear hb
  refine (HImpl.out _ _ _ _ _ _ _ _ _ _ _ Ox0.out.grid.reads Ox0.out.ints.reads Ox1.out.reads hcOx1 Ox2.out.reads hcOx2 Ox3.out.reads hcOx3).mono ?_
  rintro e w14 ⟨v, rfl, ho, hb⟩
  obtain ⟨ga, gc, rfl, _, hcOg, _⟩ := ho.slice
  have s14 : w13.heap.size ≤ w14.heap.size := hb.size
  have n14_0 : w.heap.size < w14.heap.size := by omega
  have n14_1 : w.heap.size + 1 < w14.heap.size := by omega
  have n14_2 : w.heap.size + 1 + 1 < w14.heap.size := by omega
  have n14_3 : w.heap.size + 1 + 1 + 1 < w14.heap.size := by omega
  have n14_4 : w6.heap.size < w14.heap.size := by omega
  have n14_5 : w8.heap.size < w14.heap.size := by omega
  have n14_6 : w10.heap.size < w14.heap.size := by omega
  have n14_7 : w12.heap.size < w14.heap.size := by omega
  replace x0_0 := cell_below hb x0_0 (by omega)
  replace x0_1 := cell_below hb x0_1 (by omega)
  replace x1_0 := cell_below hb x1_0 (by omega)
  replace x1_1 := cell_below hb x1_1 (by omega)
  replace x2_0 := cell_below hb x2_0 (by omega)
  replace x2_1 := cell_below hb x2_1 (by omega)
  replace x3_0 := cell_below hb x3_0 (by omega)
  replace x3_1 := cell_below hb x3_1 (by omega)
  replace p0_0 := cell_below hb p0_0 (by omega)
  replace p0_1 := cell_below hb p0_1 (by omega)
  replace p1_0 := cell_below hb p1_0 (by omega)
  replace p1_1 := cell_below hb p1_1 (by omega)
  replace p2_0 := cell_below hb p2_0 (by omega)
  replace p2_1 := cell_below hb p2_1 (by omega)
  replace p3_0 := cell_below hb p3_0 (by omega)
  replace p3_1 := cell_below hb p3_1 (by omega)
  have HB14 := Lib.hid (HB13.out.trans (hb.mono (by omega)))
  replace Ov := Lib.hid (Ov.out.below hb)
  replace Ox0 := Lib.hid (Ox0.out.below hb)
  replace Ox1 := Lib.hid (Ox1.out.below hb)
  replace Ox2 := Lib.hid (Ox2.out.below hb)
  replace Ox3 := Lib.hid (Ox3.out.below hb)
  clear hb
  have Og := Lib.hid ho
  clear ho
  go_wp2_with fail
  refine (intfns.eq_same _ _ r0 _ _ _ Og.out.reads Ov.out.reads (by omega)).mono ?_
  rintro e w15 ⟨rfl, hb⟩
  have s15 : w14.heap.size ≤ w15.heap.size := hb.size
  have n15_0 : w.heap.size < w15.heap.size := by omega
  have n15_1 : w.heap.size + 1 < w15.heap.size := by omega
  have n15_2 : w.heap.size + 1 + 1 < w15.heap.size := by omega
  have n15_3 : w.heap.size + 1 + 1 + 1 < w15.heap.size := by omega
  have n15_4 : w6.heap.size < w15.heap.size := by omega
  have n15_5 : w8.heap.size < w15.heap.size := by omega
  have n15_6 : w10.heap.size < w15.heap.size := by omega
  have n15_7 : w12.heap.size < w15.heap.size := by omega
  replace x0_0 := cell_below hb x0_0 (by omega)
  replace x0_1 := cell_below hb x0_1 (by omega)
  replace x1_0 := cell_below hb x1_0 (by omega)
  replace x1_1 := cell_below hb x1_1 (by omega)
  replace x2_0 := cell_below hb x2_0 (by omega)
  replace x2_1 := cell_below hb x2_1 (by omega)
  replace x3_0 := cell_below hb x3_0 (by omega)
  replace x3_1 := cell_below hb x3_1 (by omega)
  replace p0_0 := cell_below hb p0_0 (by omega)
  replace p0_1 := cell_below hb p0_1 (by omega)
  replace p1_0 := cell_below hb p1_0 (by omega)
  replace p1_1 := cell_below hb p1_1 (by omega)
  replace p2_0 := cell_below hb p2_0 (by omega)
  replace p2_1 := cell_below hb p2_1 (by omega)
  replace p3_0 := cell_below hb p3_0 (by omega)
  replace p3_1 := cell_below hb p3_1 (by omega)
  have HB15 := Lib.hid (HB14.out.trans (hb.mono (by omega)))
  replace Ov := Lib.hid (Ov.out.below hb)
  replace Ox0 := Lib.hid (Ox0.out.below hb)
  replace Ox1 := Lib.hid (Ox1.out.below hb)
  replace Ox2 := Lib.hid (Ox2.out.below hb)
  replace Ox3 := Lib.hid (Ox3.out.below hb)
  replace Og := Lib.hid (Og.out.below hb)
  clear hb
  go_wp2_with fail
  have HT1 := Lib.hid (show ∀ wa : World, (wa.cell? ⟨w.heap.size, 0, none⟩ = some (.slice a0 rows0.length c0) ∧ wa.cell? ⟨w.heap.size, 1, none⟩ = some (.slice e0 zs0.length d0) ∧ wa.cell? ⟨w.heap.size + 1, 0, none⟩ = some (.slice a1 zs1.length c1) ∧ wa.cell? ⟨w.heap.size + 1, 1, none⟩ = some (.int .i64 b1) ∧ wa.cell? ⟨w.heap.size + 1 + 1, 0, none⟩ = some (.slice a2 zs2.length c2) ∧ wa.cell? ⟨w.heap.size + 1 + 1, 1, none⟩ = some (.int .i64 b2) ∧ wa.cell? ⟨w.heap.size + 1 + 1 + 1, 0, none⟩ = some (.slice a3 zs3.length c3) ∧ wa.cell? ⟨w.heap.size + 1 + 1 + 1, 1, none⟩ = some (.int .i64 b3) ∧ wa.cell? ⟨w6.heap.size, 0, none⟩ = some (.slice x0a rows0.length x0c) ∧ wa.cell? ⟨w6.heap.size, 1, none⟩ = some (.slice x0e zs0.length x0d) ∧ wa.cell? ⟨w8.heap.size, 0, none⟩ = some (.slice x1a zs1.length x1c) ∧ wa.cell? ⟨w8.heap.size, 1, none⟩ = some (.int .i64 b1) ∧ wa.cell? ⟨w10.heap.size, 0, none⟩ = some (.slice x2a zs2.length x2c) ∧ wa.cell? ⟨w10.heap.size, 1, none⟩ = some (.int .i64 b2) ∧ wa.cell? ⟨w12.heap.size, 0, none⟩ = some (.slice x3a zs3.length x3c) ∧ wa.cell? ⟨w12.heap.size, 1, none⟩ = some (.int .i64 b3) ∧ Below w15.heap.size w15 wa) → Calls Try.prog 23 #[.agg #[.slice a0 rows0.length c0, .slice e0 zs0.length d0]] wa fun e w' => ∃ p q p' q', e = .returned (.agg #[.slice p rows0.length q, .slice p' zs0.length q']) ∧ grid.Reads w' p rows0 ∧ ints.Reads .i64 w' p' zs0 ∧ (w'.cell? ⟨w.heap.size, 0, none⟩ = some (.slice a0 rows0.length c0) ∧ w'.cell? ⟨w.heap.size, 1, none⟩ = some (.slice e0 zs0.length d0) ∧ w'.cell? ⟨w.heap.size + 1, 0, none⟩ = some (.slice a1 zs1.length c1) ∧ w'.cell? ⟨w.heap.size + 1, 1, none⟩ = some (.int .i64 b1) ∧ w'.cell? ⟨w.heap.size + 1 + 1, 0, none⟩ = some (.slice a2 zs2.length c2) ∧ w'.cell? ⟨w.heap.size + 1 + 1, 1, none⟩ = some (.int .i64 b2) ∧ w'.cell? ⟨w.heap.size + 1 + 1 + 1, 0, none⟩ = some (.slice a3 zs3.length c3) ∧ w'.cell? ⟨w.heap.size + 1 + 1 + 1, 1, none⟩ = some (.int .i64 b3) ∧ w'.cell? ⟨w6.heap.size, 0, none⟩ = some (.slice x0a rows0.length x0c) ∧ w'.cell? ⟨w6.heap.size, 1, none⟩ = some (.slice x0e zs0.length x0d) ∧ w'.cell? ⟨w8.heap.size, 0, none⟩ = some (.slice x1a zs1.length x1c) ∧ w'.cell? ⟨w8.heap.size, 1, none⟩ = some (.int .i64 b1) ∧ w'.cell? ⟨w10.heap.size, 0, none⟩ = some (.slice x2a zs2.length x2c) ∧ w'.cell? ⟨w10.heap.size, 1, none⟩ = some (.int .i64 b2) ∧ w'.cell? ⟨w12.heap.size, 0, none⟩ = some (.slice x3a zs3.length x3c) ∧ w'.cell? ⟨w12.heap.size, 1, none⟩ = some (.int .i64 b3) ∧ Below w15.heap.size w15 w') from fun wa hS => by
    have hz := hS.2.2.2.2.2.2.2.2.2.2.2.2.2.2.2.2.size
    refine (samplefns.to_any a0 rows0 c0 e0 zs0 d0 _ (HR0.out.below (HB15.out.trans (hS.2.2.2.2.2.2.2.2.2.2.2.2.2.2.2.2.mono (by omega)))) (HQ0.out.below (HB15.out.trans (hS.2.2.2.2.2.2.2.2.2.2.2.2.2.2.2.2.mono (by omega)))) (by omega) (by omega)).mono ?_
    rintro e w' ⟨v, l, rfl, ho, hb⟩
    obtain ⟨p, q, rfl, _, _, _⟩ := ho.grid.slice
    obtain ⟨p', q', rfl, _, _, _⟩ := ho.ints.slice
    exact ⟨p, q, p', q', rfl, ho.grid.reads, ho.ints.reads, cell_below hb hS.1 (by omega), cell_below hb hS.2.1 (by omega), cell_below hb hS.2.2.1 (by omega), cell_below hb hS.2.2.2.1 (by omega), cell_below hb hS.2.2.2.2.1 (by omega), cell_below hb hS.2.2.2.2.2.1 (by omega), cell_below hb hS.2.2.2.2.2.2.1 (by omega), cell_below hb hS.2.2.2.2.2.2.2.1 (by omega), cell_below hb hS.2.2.2.2.2.2.2.2.1 (by omega), cell_below hb hS.2.2.2.2.2.2.2.2.2.1 (by omega), cell_below hb hS.2.2.2.2.2.2.2.2.2.2.1 (by omega), cell_below hb hS.2.2.2.2.2.2.2.2.2.2.2.1 (by omega), cell_below hb hS.2.2.2.2.2.2.2.2.2.2.2.2.1 (by omega), cell_below hb hS.2.2.2.2.2.2.2.2.2.2.2.2.2.1 (by omega), cell_below hb hS.2.2.2.2.2.2.2.2.2.2.2.2.2.2.1 (by omega), cell_below hb hS.2.2.2.2.2.2.2.2.2.2.2.2.2.2.2.1 (by omega), hS.2.2.2.2.2.2.2.2.2.2.2.2.2.2.2.2.trans (hb.mono (by omega))⟩)
  have HT2 := Lib.hid (show ∀ (wa : World) (p : Option Addr) (q : Nat) (p' : Option Addr) (q' : Nat), (wa.cell? ⟨w.heap.size, 0, none⟩ = some (.slice a0 rows0.length c0) ∧ wa.cell? ⟨w.heap.size, 1, none⟩ = some (.slice e0 zs0.length d0) ∧ wa.cell? ⟨w.heap.size + 1, 0, none⟩ = some (.slice a1 zs1.length c1) ∧ wa.cell? ⟨w.heap.size + 1, 1, none⟩ = some (.int .i64 b1) ∧ wa.cell? ⟨w.heap.size + 1 + 1, 0, none⟩ = some (.slice a2 zs2.length c2) ∧ wa.cell? ⟨w.heap.size + 1 + 1, 1, none⟩ = some (.int .i64 b2) ∧ wa.cell? ⟨w.heap.size + 1 + 1 + 1, 0, none⟩ = some (.slice a3 zs3.length c3) ∧ wa.cell? ⟨w.heap.size + 1 + 1 + 1, 1, none⟩ = some (.int .i64 b3) ∧ wa.cell? ⟨w6.heap.size, 0, none⟩ = some (.slice x0a rows0.length x0c) ∧ wa.cell? ⟨w6.heap.size, 1, none⟩ = some (.slice x0e zs0.length x0d) ∧ wa.cell? ⟨w8.heap.size, 0, none⟩ = some (.slice x1a zs1.length x1c) ∧ wa.cell? ⟨w8.heap.size, 1, none⟩ = some (.int .i64 b1) ∧ wa.cell? ⟨w10.heap.size, 0, none⟩ = some (.slice x2a zs2.length x2c) ∧ wa.cell? ⟨w10.heap.size, 1, none⟩ = some (.int .i64 b2) ∧ wa.cell? ⟨w12.heap.size, 0, none⟩ = some (.slice x3a zs3.length x3c) ∧ wa.cell? ⟨w12.heap.size, 1, none⟩ = some (.int .i64 b3) ∧ Below w15.heap.size w15 wa) → grid.Reads wa p rows0 → ints.Reads .i64 wa p' zs0 → Calls Try.prog 26 #[.agg #[.slice x0a rows0.length x0c, .slice x0e zs0.length x0d], .agg #[.slice p rows0.length q, .slice p' zs0.length q']] wa fun e w' => e = .returned (.bool true) ∧ (w'.cell? ⟨w.heap.size, 0, none⟩ = some (.slice a0 rows0.length c0) ∧ w'.cell? ⟨w.heap.size, 1, none⟩ = some (.slice e0 zs0.length d0) ∧ w'.cell? ⟨w.heap.size + 1, 0, none⟩ = some (.slice a1 zs1.length c1) ∧ w'.cell? ⟨w.heap.size + 1, 1, none⟩ = some (.int .i64 b1) ∧ w'.cell? ⟨w.heap.size + 1 + 1, 0, none⟩ = some (.slice a2 zs2.length c2) ∧ w'.cell? ⟨w.heap.size + 1 + 1, 1, none⟩ = some (.int .i64 b2) ∧ w'.cell? ⟨w.heap.size + 1 + 1 + 1, 0, none⟩ = some (.slice a3 zs3.length c3) ∧ w'.cell? ⟨w.heap.size + 1 + 1 + 1, 1, none⟩ = some (.int .i64 b3) ∧ w'.cell? ⟨w6.heap.size, 0, none⟩ = some (.slice x0a rows0.length x0c) ∧ w'.cell? ⟨w6.heap.size, 1, none⟩ = some (.slice x0e zs0.length x0d) ∧ w'.cell? ⟨w8.heap.size, 0, none⟩ = some (.slice x1a zs1.length x1c) ∧ w'.cell? ⟨w8.heap.size, 1, none⟩ = some (.int .i64 b1) ∧ w'.cell? ⟨w10.heap.size, 0, none⟩ = some (.slice x2a zs2.length x2c) ∧ w'.cell? ⟨w10.heap.size, 1, none⟩ = some (.int .i64 b2) ∧ w'.cell? ⟨w12.heap.size, 0, none⟩ = some (.slice x3a zs3.length x3c) ∧ w'.cell? ⟨w12.heap.size, 1, none⟩ = some (.int .i64 b3) ∧ Below w15.heap.size w15 w') from fun wa p q p' q' hS k1 k2 => by
    have hz := hS.2.2.2.2.2.2.2.2.2.2.2.2.2.2.2.2.size
    have ho := Ox0.out.below hS.2.2.2.2.2.2.2.2.2.2.2.2.2.2.2.2
    refine (samplefns.eq_same _ _ rows0 _ _ _ _ zs0 _ _ _ ho.grid.reads k1 ho.ints.reads k2 (by omega) (fun s hs => by have := grid.len_le_tot rows0 s hs; omega) (by omega)).mono ?_
    rintro e w' ⟨rfl, hb⟩
    exact ⟨rfl, cell_below hb hS.1 (by omega), cell_below hb hS.2.1 (by omega), cell_below hb hS.2.2.1 (by omega), cell_below hb hS.2.2.2.1 (by omega), cell_below hb hS.2.2.2.2.1 (by omega), cell_below hb hS.2.2.2.2.2.1 (by omega), cell_below hb hS.2.2.2.2.2.2.1 (by omega), cell_below hb hS.2.2.2.2.2.2.2.1 (by omega), cell_below hb hS.2.2.2.2.2.2.2.2.1 (by omega), cell_below hb hS.2.2.2.2.2.2.2.2.2.1 (by omega), cell_below hb hS.2.2.2.2.2.2.2.2.2.2.1 (by omega), cell_below hb hS.2.2.2.2.2.2.2.2.2.2.2.1 (by omega), cell_below hb hS.2.2.2.2.2.2.2.2.2.2.2.2.1 (by omega), cell_below hb hS.2.2.2.2.2.2.2.2.2.2.2.2.2.1 (by omega), cell_below hb hS.2.2.2.2.2.2.2.2.2.2.2.2.2.2.1 (by omega), cell_below hb hS.2.2.2.2.2.2.2.2.2.2.2.2.2.2.2.1 (by omega), hS.2.2.2.2.2.2.2.2.2.2.2.2.2.2.2.2.trans (hb.mono (by omega))⟩)
  go_region_held3 (fun w' => w'.cell? ⟨w.heap.size, 0, none⟩ = some (.slice a0 rows0.length c0) ∧ w'.cell? ⟨w.heap.size, 1, none⟩ = some (.slice e0 zs0.length d0) ∧ w'.cell? ⟨w.heap.size + 1, 0, none⟩ = some (.slice a1 zs1.length c1) ∧ w'.cell? ⟨w.heap.size + 1, 1, none⟩ = some (.int .i64 b1) ∧ w'.cell? ⟨w.heap.size + 1 + 1, 0, none⟩ = some (.slice a2 zs2.length c2) ∧ w'.cell? ⟨w.heap.size + 1 + 1, 1, none⟩ = some (.int .i64 b2) ∧ w'.cell? ⟨w.heap.size + 1 + 1 + 1, 0, none⟩ = some (.slice a3 zs3.length c3) ∧ w'.cell? ⟨w.heap.size + 1 + 1 + 1, 1, none⟩ = some (.int .i64 b3) ∧ w'.cell? ⟨w6.heap.size, 0, none⟩ = some (.slice x0a rows0.length x0c) ∧ w'.cell? ⟨w6.heap.size, 1, none⟩ = some (.slice x0e zs0.length x0d) ∧ w'.cell? ⟨w8.heap.size, 0, none⟩ = some (.slice x1a zs1.length x1c) ∧ w'.cell? ⟨w8.heap.size, 1, none⟩ = some (.int .i64 b1) ∧ w'.cell? ⟨w10.heap.size, 0, none⟩ = some (.slice x2a zs2.length x2c) ∧ w'.cell? ⟨w10.heap.size, 1, none⟩ = some (.int .i64 b2) ∧ w'.cell? ⟨w12.heap.size, 0, none⟩ = some (.slice x3a zs3.length x3c) ∧ w'.cell? ⟨w12.heap.size, 1, none⟩ = some (.int .i64 b3) ∧ Below w15.heap.size w15 w') (first | assumption | exact ⟨x0_0, x0_1, x1_0, x1_1, x2_0, x2_1, x3_0, x3_1, p0_0, p0_1, p1_0, p1_1, p2_0, p2_1, p3_0, p3_1, Below.refl _ _⟩ | exact ⟨x0_0, x0_1, x1_0, x1_1, x2_0, x2_1, x3_0, x3_1, p0_0, p0_1, p1_0, p1_1, p2_0, p2_1, p3_0, p3_1, (Below.refl _ _).drew⟩) (first | (go_at_call 23; refine Calls.mono (HT1.out _ ?_) ?_; assumption; rintro e w' ⟨p, q, p', q', rfl, k1, k2, hbx⟩) | (go_at_call 26; refine Calls.mono (HT2.out _ _ _ _ _ ?_ ?_ ?_) ?_; assumption; assumption; assumption; rintro e w16 ⟨rfl, hbx⟩))
  obtain ⟨_, _, _, _, _, _, _, _, _, _, _, _, _, _, _, _, hb⟩ := hbx
  have s16 : w15.heap.size ≤ w16.heap.size := hb.size
  have n16_0 : w.heap.size < w16.heap.size := by omega
  have n16_1 : w.heap.size + 1 < w16.heap.size := by omega
  have n16_2 : w.heap.size + 1 + 1 < w16.heap.size := by omega
  have n16_3 : w.heap.size + 1 + 1 + 1 < w16.heap.size := by omega
  have n16_4 : w6.heap.size < w16.heap.size := by omega
  have n16_5 : w8.heap.size < w16.heap.size := by omega
  have n16_6 : w10.heap.size < w16.heap.size := by omega
  have n16_7 : w12.heap.size < w16.heap.size := by omega
  replace x0_0 := cell_below hb x0_0 (by omega)
  replace x0_1 := cell_below hb x0_1 (by omega)
  replace x1_0 := cell_below hb x1_0 (by omega)
  replace x1_1 := cell_below hb x1_1 (by omega)
  replace x2_0 := cell_below hb x2_0 (by omega)
  replace x2_1 := cell_below hb x2_1 (by omega)
  replace x3_0 := cell_below hb x3_0 (by omega)
  replace x3_1 := cell_below hb x3_1 (by omega)
  replace p0_0 := cell_below hb p0_0 (by omega)
  replace p0_1 := cell_below hb p0_1 (by omega)
  replace p1_0 := cell_below hb p1_0 (by omega)
  replace p1_1 := cell_below hb p1_1 (by omega)
  replace p2_0 := cell_below hb p2_0 (by omega)
  replace p2_1 := cell_below hb p2_1 (by omega)
  replace p3_0 := cell_below hb p3_0 (by omega)
  replace p3_1 := cell_below hb p3_1 (by omega)
  have HB16 := Lib.hid (HB15.out.trans (hb.mono (by omega)))
  replace Ov := Lib.hid (Ov.out.below hb)
  replace Ox0 := Lib.hid (Ox0.out.below hb)
  replace Ox1 := Lib.hid (Ox1.out.below hb)
  replace Ox2 := Lib.hid (Ox2.out.below hb)
  replace Ox3 := Lib.hid (Ox3.out.below hb)
  replace Og := Lib.hid (Og.out.below hb)
  clear hb
  clear HT1 HT2
  go_wp2_with fail
  have HT1 := Lib.hid (show ∀ wa : World, (wa.cell? ⟨w.heap.size, 0, none⟩ = some (.slice a0 rows0.length c0) ∧ wa.cell? ⟨w.heap.size, 1, none⟩ = some (.slice e0 zs0.length d0) ∧ wa.cell? ⟨w.heap.size + 1, 0, none⟩ = some (.slice a1 zs1.length c1) ∧ wa.cell? ⟨w.heap.size + 1, 1, none⟩ = some (.int .i64 b1) ∧ wa.cell? ⟨w.heap.size + 1 + 1, 0, none⟩ = some (.slice a2 zs2.length c2) ∧ wa.cell? ⟨w.heap.size + 1 + 1, 1, none⟩ = some (.int .i64 b2) ∧ wa.cell? ⟨w.heap.size + 1 + 1 + 1, 0, none⟩ = some (.slice a3 zs3.length c3) ∧ wa.cell? ⟨w.heap.size + 1 + 1 + 1, 1, none⟩ = some (.int .i64 b3) ∧ wa.cell? ⟨w6.heap.size, 0, none⟩ = some (.slice x0a rows0.length x0c) ∧ wa.cell? ⟨w6.heap.size, 1, none⟩ = some (.slice x0e zs0.length x0d) ∧ wa.cell? ⟨w8.heap.size, 0, none⟩ = some (.slice x1a zs1.length x1c) ∧ wa.cell? ⟨w8.heap.size, 1, none⟩ = some (.int .i64 b1) ∧ wa.cell? ⟨w10.heap.size, 0, none⟩ = some (.slice x2a zs2.length x2c) ∧ wa.cell? ⟨w10.heap.size, 1, none⟩ = some (.int .i64 b2) ∧ wa.cell? ⟨w12.heap.size, 0, none⟩ = some (.slice x3a zs3.length x3c) ∧ wa.cell? ⟨w12.heap.size, 1, none⟩ = some (.int .i64 b3) ∧ Below w16.heap.size w16 wa) → Calls Try.prog 18 #[.agg #[.slice a1 zs1.length c1, .int .i64 b1]] wa fun e w' => ∃ p q, e = .returned (.agg #[.slice p zs1.length q, .int .i64 b1]) ∧ ints.Reads .i64 w' p zs1 ∧ (w'.cell? ⟨w.heap.size, 0, none⟩ = some (.slice a0 rows0.length c0) ∧ w'.cell? ⟨w.heap.size, 1, none⟩ = some (.slice e0 zs0.length d0) ∧ w'.cell? ⟨w.heap.size + 1, 0, none⟩ = some (.slice a1 zs1.length c1) ∧ w'.cell? ⟨w.heap.size + 1, 1, none⟩ = some (.int .i64 b1) ∧ w'.cell? ⟨w.heap.size + 1 + 1, 0, none⟩ = some (.slice a2 zs2.length c2) ∧ w'.cell? ⟨w.heap.size + 1 + 1, 1, none⟩ = some (.int .i64 b2) ∧ w'.cell? ⟨w.heap.size + 1 + 1 + 1, 0, none⟩ = some (.slice a3 zs3.length c3) ∧ w'.cell? ⟨w.heap.size + 1 + 1 + 1, 1, none⟩ = some (.int .i64 b3) ∧ w'.cell? ⟨w6.heap.size, 0, none⟩ = some (.slice x0a rows0.length x0c) ∧ w'.cell? ⟨w6.heap.size, 1, none⟩ = some (.slice x0e zs0.length x0d) ∧ w'.cell? ⟨w8.heap.size, 0, none⟩ = some (.slice x1a zs1.length x1c) ∧ w'.cell? ⟨w8.heap.size, 1, none⟩ = some (.int .i64 b1) ∧ w'.cell? ⟨w10.heap.size, 0, none⟩ = some (.slice x2a zs2.length x2c) ∧ w'.cell? ⟨w10.heap.size, 1, none⟩ = some (.int .i64 b2) ∧ w'.cell? ⟨w12.heap.size, 0, none⟩ = some (.slice x3a zs3.length x3c) ∧ w'.cell? ⟨w12.heap.size, 1, none⟩ = some (.int .i64 b3) ∧ Below w16.heap.size w16 w') from fun wa hS => by
    have hz := hS.2.2.2.2.2.2.2.2.2.2.2.2.2.2.2.2.size
    refine (planefns.to_any a1 zs1 c1 b1 _ (HR1.out.below (HB16.out.trans (hS.2.2.2.2.2.2.2.2.2.2.2.2.2.2.2.2.mono (by omega)))) (by omega)).mono ?_
    rintro e w' ⟨v, rfl, ho, hb⟩
    obtain ⟨p, q, rfl, _, _, _⟩ := ho.slice
    exact ⟨p, q, rfl, ho.reads, cell_below hb hS.1 (by omega), cell_below hb hS.2.1 (by omega), cell_below hb hS.2.2.1 (by omega), cell_below hb hS.2.2.2.1 (by omega), cell_below hb hS.2.2.2.2.1 (by omega), cell_below hb hS.2.2.2.2.2.1 (by omega), cell_below hb hS.2.2.2.2.2.2.1 (by omega), cell_below hb hS.2.2.2.2.2.2.2.1 (by omega), cell_below hb hS.2.2.2.2.2.2.2.2.1 (by omega), cell_below hb hS.2.2.2.2.2.2.2.2.2.1 (by omega), cell_below hb hS.2.2.2.2.2.2.2.2.2.2.1 (by omega), cell_below hb hS.2.2.2.2.2.2.2.2.2.2.2.1 (by omega), cell_below hb hS.2.2.2.2.2.2.2.2.2.2.2.2.1 (by omega), cell_below hb hS.2.2.2.2.2.2.2.2.2.2.2.2.2.1 (by omega), cell_below hb hS.2.2.2.2.2.2.2.2.2.2.2.2.2.2.1 (by omega), cell_below hb hS.2.2.2.2.2.2.2.2.2.2.2.2.2.2.2.1 (by omega), hS.2.2.2.2.2.2.2.2.2.2.2.2.2.2.2.2.trans (hb.mono (by omega))⟩)
  have HT2 := Lib.hid (show ∀ (wa : World) (p : Option Addr) (q : Nat), (wa.cell? ⟨w.heap.size, 0, none⟩ = some (.slice a0 rows0.length c0) ∧ wa.cell? ⟨w.heap.size, 1, none⟩ = some (.slice e0 zs0.length d0) ∧ wa.cell? ⟨w.heap.size + 1, 0, none⟩ = some (.slice a1 zs1.length c1) ∧ wa.cell? ⟨w.heap.size + 1, 1, none⟩ = some (.int .i64 b1) ∧ wa.cell? ⟨w.heap.size + 1 + 1, 0, none⟩ = some (.slice a2 zs2.length c2) ∧ wa.cell? ⟨w.heap.size + 1 + 1, 1, none⟩ = some (.int .i64 b2) ∧ wa.cell? ⟨w.heap.size + 1 + 1 + 1, 0, none⟩ = some (.slice a3 zs3.length c3) ∧ wa.cell? ⟨w.heap.size + 1 + 1 + 1, 1, none⟩ = some (.int .i64 b3) ∧ wa.cell? ⟨w6.heap.size, 0, none⟩ = some (.slice x0a rows0.length x0c) ∧ wa.cell? ⟨w6.heap.size, 1, none⟩ = some (.slice x0e zs0.length x0d) ∧ wa.cell? ⟨w8.heap.size, 0, none⟩ = some (.slice x1a zs1.length x1c) ∧ wa.cell? ⟨w8.heap.size, 1, none⟩ = some (.int .i64 b1) ∧ wa.cell? ⟨w10.heap.size, 0, none⟩ = some (.slice x2a zs2.length x2c) ∧ wa.cell? ⟨w10.heap.size, 1, none⟩ = some (.int .i64 b2) ∧ wa.cell? ⟨w12.heap.size, 0, none⟩ = some (.slice x3a zs3.length x3c) ∧ wa.cell? ⟨w12.heap.size, 1, none⟩ = some (.int .i64 b3) ∧ Below w16.heap.size w16 wa) → ints.Reads .i64 wa p zs1 → Calls Try.prog 20 #[.agg #[.slice x1a zs1.length x1c, .int .i64 b1], .agg #[.slice p zs1.length q, .int .i64 b1]] wa fun e w' => e = .returned (.bool true) ∧ (w'.cell? ⟨w.heap.size, 0, none⟩ = some (.slice a0 rows0.length c0) ∧ w'.cell? ⟨w.heap.size, 1, none⟩ = some (.slice e0 zs0.length d0) ∧ w'.cell? ⟨w.heap.size + 1, 0, none⟩ = some (.slice a1 zs1.length c1) ∧ w'.cell? ⟨w.heap.size + 1, 1, none⟩ = some (.int .i64 b1) ∧ w'.cell? ⟨w.heap.size + 1 + 1, 0, none⟩ = some (.slice a2 zs2.length c2) ∧ w'.cell? ⟨w.heap.size + 1 + 1, 1, none⟩ = some (.int .i64 b2) ∧ w'.cell? ⟨w.heap.size + 1 + 1 + 1, 0, none⟩ = some (.slice a3 zs3.length c3) ∧ w'.cell? ⟨w.heap.size + 1 + 1 + 1, 1, none⟩ = some (.int .i64 b3) ∧ w'.cell? ⟨w6.heap.size, 0, none⟩ = some (.slice x0a rows0.length x0c) ∧ w'.cell? ⟨w6.heap.size, 1, none⟩ = some (.slice x0e zs0.length x0d) ∧ w'.cell? ⟨w8.heap.size, 0, none⟩ = some (.slice x1a zs1.length x1c) ∧ w'.cell? ⟨w8.heap.size, 1, none⟩ = some (.int .i64 b1) ∧ w'.cell? ⟨w10.heap.size, 0, none⟩ = some (.slice x2a zs2.length x2c) ∧ w'.cell? ⟨w10.heap.size, 1, none⟩ = some (.int .i64 b2) ∧ w'.cell? ⟨w12.heap.size, 0, none⟩ = some (.slice x3a zs3.length x3c) ∧ w'.cell? ⟨w12.heap.size, 1, none⟩ = some (.int .i64 b3) ∧ Below w16.heap.size w16 w') from fun wa p q hS k1 => by
    have hz := hS.2.2.2.2.2.2.2.2.2.2.2.2.2.2.2.2.size
    have ho := Ox1.out.below hS.2.2.2.2.2.2.2.2.2.2.2.2.2.2.2.2
    refine (planefns.eq_same _ _ zs1 _ _ b1 _ ho.reads k1 (by omega)).mono ?_
    rintro e w' ⟨rfl, hb⟩
    exact ⟨rfl, cell_below hb hS.1 (by omega), cell_below hb hS.2.1 (by omega), cell_below hb hS.2.2.1 (by omega), cell_below hb hS.2.2.2.1 (by omega), cell_below hb hS.2.2.2.2.1 (by omega), cell_below hb hS.2.2.2.2.2.1 (by omega), cell_below hb hS.2.2.2.2.2.2.1 (by omega), cell_below hb hS.2.2.2.2.2.2.2.1 (by omega), cell_below hb hS.2.2.2.2.2.2.2.2.1 (by omega), cell_below hb hS.2.2.2.2.2.2.2.2.2.1 (by omega), cell_below hb hS.2.2.2.2.2.2.2.2.2.2.1 (by omega), cell_below hb hS.2.2.2.2.2.2.2.2.2.2.2.1 (by omega), cell_below hb hS.2.2.2.2.2.2.2.2.2.2.2.2.1 (by omega), cell_below hb hS.2.2.2.2.2.2.2.2.2.2.2.2.2.1 (by omega), cell_below hb hS.2.2.2.2.2.2.2.2.2.2.2.2.2.2.1 (by omega), cell_below hb hS.2.2.2.2.2.2.2.2.2.2.2.2.2.2.2.1 (by omega), hS.2.2.2.2.2.2.2.2.2.2.2.2.2.2.2.2.trans (hb.mono (by omega))⟩)
  go_region_held3 (fun w' => w'.cell? ⟨w.heap.size, 0, none⟩ = some (.slice a0 rows0.length c0) ∧ w'.cell? ⟨w.heap.size, 1, none⟩ = some (.slice e0 zs0.length d0) ∧ w'.cell? ⟨w.heap.size + 1, 0, none⟩ = some (.slice a1 zs1.length c1) ∧ w'.cell? ⟨w.heap.size + 1, 1, none⟩ = some (.int .i64 b1) ∧ w'.cell? ⟨w.heap.size + 1 + 1, 0, none⟩ = some (.slice a2 zs2.length c2) ∧ w'.cell? ⟨w.heap.size + 1 + 1, 1, none⟩ = some (.int .i64 b2) ∧ w'.cell? ⟨w.heap.size + 1 + 1 + 1, 0, none⟩ = some (.slice a3 zs3.length c3) ∧ w'.cell? ⟨w.heap.size + 1 + 1 + 1, 1, none⟩ = some (.int .i64 b3) ∧ w'.cell? ⟨w6.heap.size, 0, none⟩ = some (.slice x0a rows0.length x0c) ∧ w'.cell? ⟨w6.heap.size, 1, none⟩ = some (.slice x0e zs0.length x0d) ∧ w'.cell? ⟨w8.heap.size, 0, none⟩ = some (.slice x1a zs1.length x1c) ∧ w'.cell? ⟨w8.heap.size, 1, none⟩ = some (.int .i64 b1) ∧ w'.cell? ⟨w10.heap.size, 0, none⟩ = some (.slice x2a zs2.length x2c) ∧ w'.cell? ⟨w10.heap.size, 1, none⟩ = some (.int .i64 b2) ∧ w'.cell? ⟨w12.heap.size, 0, none⟩ = some (.slice x3a zs3.length x3c) ∧ w'.cell? ⟨w12.heap.size, 1, none⟩ = some (.int .i64 b3) ∧ Below w16.heap.size w16 w') (first | assumption | exact ⟨x0_0, x0_1, x1_0, x1_1, x2_0, x2_1, x3_0, x3_1, p0_0, p0_1, p1_0, p1_1, p2_0, p2_1, p3_0, p3_1, Below.refl _ _⟩ | exact ⟨x0_0, x0_1, x1_0, x1_1, x2_0, x2_1, x3_0, x3_1, p0_0, p0_1, p1_0, p1_1, p2_0, p2_1, p3_0, p3_1, (Below.refl _ _).drew⟩) (first | (go_at_call 18; refine Calls.mono (HT1.out _ ?_) ?_; assumption; rintro e w' ⟨p, q, rfl, k1, hbx⟩) | (go_at_call 20; refine Calls.mono (HT2.out _ _ _ ?_ ?_) ?_; assumption; assumption; rintro e w17 ⟨rfl, hbx⟩))
  obtain ⟨_, _, _, _, _, _, _, _, _, _, _, _, _, _, _, _, hb⟩ := hbx
  have s17 : w16.heap.size ≤ w17.heap.size := hb.size
  have n17_0 : w.heap.size < w17.heap.size := by omega
  have n17_1 : w.heap.size + 1 < w17.heap.size := by omega
  have n17_2 : w.heap.size + 1 + 1 < w17.heap.size := by omega
  have n17_3 : w.heap.size + 1 + 1 + 1 < w17.heap.size := by omega
  have n17_4 : w6.heap.size < w17.heap.size := by omega
  have n17_5 : w8.heap.size < w17.heap.size := by omega
  have n17_6 : w10.heap.size < w17.heap.size := by omega
  have n17_7 : w12.heap.size < w17.heap.size := by omega
  replace x0_0 := cell_below hb x0_0 (by omega)
  replace x0_1 := cell_below hb x0_1 (by omega)
  replace x1_0 := cell_below hb x1_0 (by omega)
  replace x1_1 := cell_below hb x1_1 (by omega)
  replace x2_0 := cell_below hb x2_0 (by omega)
  replace x2_1 := cell_below hb x2_1 (by omega)
  replace x3_0 := cell_below hb x3_0 (by omega)
  replace x3_1 := cell_below hb x3_1 (by omega)
  replace p0_0 := cell_below hb p0_0 (by omega)
  replace p0_1 := cell_below hb p0_1 (by omega)
  replace p1_0 := cell_below hb p1_0 (by omega)
  replace p1_1 := cell_below hb p1_1 (by omega)
  replace p2_0 := cell_below hb p2_0 (by omega)
  replace p2_1 := cell_below hb p2_1 (by omega)
  replace p3_0 := cell_below hb p3_0 (by omega)
  replace p3_1 := cell_below hb p3_1 (by omega)
  have HB17 := Lib.hid (HB16.out.trans (hb.mono (by omega)))
  replace Ov := Lib.hid (Ov.out.below hb)
  replace Ox0 := Lib.hid (Ox0.out.below hb)
  replace Ox1 := Lib.hid (Ox1.out.below hb)
  replace Ox2 := Lib.hid (Ox2.out.below hb)
  replace Ox3 := Lib.hid (Ox3.out.below hb)
  replace Og := Lib.hid (Og.out.below hb)
  clear hb
  clear HT1 HT2
  go_wp2_with fail
  have HT1 := Lib.hid (show ∀ wa : World, (wa.cell? ⟨w.heap.size, 0, none⟩ = some (.slice a0 rows0.length c0) ∧ wa.cell? ⟨w.heap.size, 1, none⟩ = some (.slice e0 zs0.length d0) ∧ wa.cell? ⟨w.heap.size + 1, 0, none⟩ = some (.slice a1 zs1.length c1) ∧ wa.cell? ⟨w.heap.size + 1, 1, none⟩ = some (.int .i64 b1) ∧ wa.cell? ⟨w.heap.size + 1 + 1, 0, none⟩ = some (.slice a2 zs2.length c2) ∧ wa.cell? ⟨w.heap.size + 1 + 1, 1, none⟩ = some (.int .i64 b2) ∧ wa.cell? ⟨w.heap.size + 1 + 1 + 1, 0, none⟩ = some (.slice a3 zs3.length c3) ∧ wa.cell? ⟨w.heap.size + 1 + 1 + 1, 1, none⟩ = some (.int .i64 b3) ∧ wa.cell? ⟨w6.heap.size, 0, none⟩ = some (.slice x0a rows0.length x0c) ∧ wa.cell? ⟨w6.heap.size, 1, none⟩ = some (.slice x0e zs0.length x0d) ∧ wa.cell? ⟨w8.heap.size, 0, none⟩ = some (.slice x1a zs1.length x1c) ∧ wa.cell? ⟨w8.heap.size, 1, none⟩ = some (.int .i64 b1) ∧ wa.cell? ⟨w10.heap.size, 0, none⟩ = some (.slice x2a zs2.length x2c) ∧ wa.cell? ⟨w10.heap.size, 1, none⟩ = some (.int .i64 b2) ∧ wa.cell? ⟨w12.heap.size, 0, none⟩ = some (.slice x3a zs3.length x3c) ∧ wa.cell? ⟨w12.heap.size, 1, none⟩ = some (.int .i64 b3) ∧ Below w17.heap.size w17 wa) → Calls Try.prog 18 #[.agg #[.slice a2 zs2.length c2, .int .i64 b2]] wa fun e w' => ∃ p q, e = .returned (.agg #[.slice p zs2.length q, .int .i64 b2]) ∧ ints.Reads .i64 w' p zs2 ∧ (w'.cell? ⟨w.heap.size, 0, none⟩ = some (.slice a0 rows0.length c0) ∧ w'.cell? ⟨w.heap.size, 1, none⟩ = some (.slice e0 zs0.length d0) ∧ w'.cell? ⟨w.heap.size + 1, 0, none⟩ = some (.slice a1 zs1.length c1) ∧ w'.cell? ⟨w.heap.size + 1, 1, none⟩ = some (.int .i64 b1) ∧ w'.cell? ⟨w.heap.size + 1 + 1, 0, none⟩ = some (.slice a2 zs2.length c2) ∧ w'.cell? ⟨w.heap.size + 1 + 1, 1, none⟩ = some (.int .i64 b2) ∧ w'.cell? ⟨w.heap.size + 1 + 1 + 1, 0, none⟩ = some (.slice a3 zs3.length c3) ∧ w'.cell? ⟨w.heap.size + 1 + 1 + 1, 1, none⟩ = some (.int .i64 b3) ∧ w'.cell? ⟨w6.heap.size, 0, none⟩ = some (.slice x0a rows0.length x0c) ∧ w'.cell? ⟨w6.heap.size, 1, none⟩ = some (.slice x0e zs0.length x0d) ∧ w'.cell? ⟨w8.heap.size, 0, none⟩ = some (.slice x1a zs1.length x1c) ∧ w'.cell? ⟨w8.heap.size, 1, none⟩ = some (.int .i64 b1) ∧ w'.cell? ⟨w10.heap.size, 0, none⟩ = some (.slice x2a zs2.length x2c) ∧ w'.cell? ⟨w10.heap.size, 1, none⟩ = some (.int .i64 b2) ∧ w'.cell? ⟨w12.heap.size, 0, none⟩ = some (.slice x3a zs3.length x3c) ∧ w'.cell? ⟨w12.heap.size, 1, none⟩ = some (.int .i64 b3) ∧ Below w17.heap.size w17 w') from fun wa hS => by
    have hz := hS.2.2.2.2.2.2.2.2.2.2.2.2.2.2.2.2.size
    refine (planefns.to_any a2 zs2 c2 b2 _ (HR2.out.below (HB17.out.trans (hS.2.2.2.2.2.2.2.2.2.2.2.2.2.2.2.2.mono (by omega)))) (by omega)).mono ?_
    rintro e w' ⟨v, rfl, ho, hb⟩
    obtain ⟨p, q, rfl, _, _, _⟩ := ho.slice
    exact ⟨p, q, rfl, ho.reads, cell_below hb hS.1 (by omega), cell_below hb hS.2.1 (by omega), cell_below hb hS.2.2.1 (by omega), cell_below hb hS.2.2.2.1 (by omega), cell_below hb hS.2.2.2.2.1 (by omega), cell_below hb hS.2.2.2.2.2.1 (by omega), cell_below hb hS.2.2.2.2.2.2.1 (by omega), cell_below hb hS.2.2.2.2.2.2.2.1 (by omega), cell_below hb hS.2.2.2.2.2.2.2.2.1 (by omega), cell_below hb hS.2.2.2.2.2.2.2.2.2.1 (by omega), cell_below hb hS.2.2.2.2.2.2.2.2.2.2.1 (by omega), cell_below hb hS.2.2.2.2.2.2.2.2.2.2.2.1 (by omega), cell_below hb hS.2.2.2.2.2.2.2.2.2.2.2.2.1 (by omega), cell_below hb hS.2.2.2.2.2.2.2.2.2.2.2.2.2.1 (by omega), cell_below hb hS.2.2.2.2.2.2.2.2.2.2.2.2.2.2.1 (by omega), cell_below hb hS.2.2.2.2.2.2.2.2.2.2.2.2.2.2.2.1 (by omega), hS.2.2.2.2.2.2.2.2.2.2.2.2.2.2.2.2.trans (hb.mono (by omega))⟩)
  have HT2 := Lib.hid (show ∀ (wa : World) (p : Option Addr) (q : Nat), (wa.cell? ⟨w.heap.size, 0, none⟩ = some (.slice a0 rows0.length c0) ∧ wa.cell? ⟨w.heap.size, 1, none⟩ = some (.slice e0 zs0.length d0) ∧ wa.cell? ⟨w.heap.size + 1, 0, none⟩ = some (.slice a1 zs1.length c1) ∧ wa.cell? ⟨w.heap.size + 1, 1, none⟩ = some (.int .i64 b1) ∧ wa.cell? ⟨w.heap.size + 1 + 1, 0, none⟩ = some (.slice a2 zs2.length c2) ∧ wa.cell? ⟨w.heap.size + 1 + 1, 1, none⟩ = some (.int .i64 b2) ∧ wa.cell? ⟨w.heap.size + 1 + 1 + 1, 0, none⟩ = some (.slice a3 zs3.length c3) ∧ wa.cell? ⟨w.heap.size + 1 + 1 + 1, 1, none⟩ = some (.int .i64 b3) ∧ wa.cell? ⟨w6.heap.size, 0, none⟩ = some (.slice x0a rows0.length x0c) ∧ wa.cell? ⟨w6.heap.size, 1, none⟩ = some (.slice x0e zs0.length x0d) ∧ wa.cell? ⟨w8.heap.size, 0, none⟩ = some (.slice x1a zs1.length x1c) ∧ wa.cell? ⟨w8.heap.size, 1, none⟩ = some (.int .i64 b1) ∧ wa.cell? ⟨w10.heap.size, 0, none⟩ = some (.slice x2a zs2.length x2c) ∧ wa.cell? ⟨w10.heap.size, 1, none⟩ = some (.int .i64 b2) ∧ wa.cell? ⟨w12.heap.size, 0, none⟩ = some (.slice x3a zs3.length x3c) ∧ wa.cell? ⟨w12.heap.size, 1, none⟩ = some (.int .i64 b3) ∧ Below w17.heap.size w17 wa) → ints.Reads .i64 wa p zs2 → Calls Try.prog 20 #[.agg #[.slice x2a zs2.length x2c, .int .i64 b2], .agg #[.slice p zs2.length q, .int .i64 b2]] wa fun e w' => e = .returned (.bool true) ∧ (w'.cell? ⟨w.heap.size, 0, none⟩ = some (.slice a0 rows0.length c0) ∧ w'.cell? ⟨w.heap.size, 1, none⟩ = some (.slice e0 zs0.length d0) ∧ w'.cell? ⟨w.heap.size + 1, 0, none⟩ = some (.slice a1 zs1.length c1) ∧ w'.cell? ⟨w.heap.size + 1, 1, none⟩ = some (.int .i64 b1) ∧ w'.cell? ⟨w.heap.size + 1 + 1, 0, none⟩ = some (.slice a2 zs2.length c2) ∧ w'.cell? ⟨w.heap.size + 1 + 1, 1, none⟩ = some (.int .i64 b2) ∧ w'.cell? ⟨w.heap.size + 1 + 1 + 1, 0, none⟩ = some (.slice a3 zs3.length c3) ∧ w'.cell? ⟨w.heap.size + 1 + 1 + 1, 1, none⟩ = some (.int .i64 b3) ∧ w'.cell? ⟨w6.heap.size, 0, none⟩ = some (.slice x0a rows0.length x0c) ∧ w'.cell? ⟨w6.heap.size, 1, none⟩ = some (.slice x0e zs0.length x0d) ∧ w'.cell? ⟨w8.heap.size, 0, none⟩ = some (.slice x1a zs1.length x1c) ∧ w'.cell? ⟨w8.heap.size, 1, none⟩ = some (.int .i64 b1) ∧ w'.cell? ⟨w10.heap.size, 0, none⟩ = some (.slice x2a zs2.length x2c) ∧ w'.cell? ⟨w10.heap.size, 1, none⟩ = some (.int .i64 b2) ∧ w'.cell? ⟨w12.heap.size, 0, none⟩ = some (.slice x3a zs3.length x3c) ∧ w'.cell? ⟨w12.heap.size, 1, none⟩ = some (.int .i64 b3) ∧ Below w17.heap.size w17 w') from fun wa p q hS k1 => by
    have hz := hS.2.2.2.2.2.2.2.2.2.2.2.2.2.2.2.2.size
    have ho := Ox2.out.below hS.2.2.2.2.2.2.2.2.2.2.2.2.2.2.2.2
    refine (planefns.eq_same _ _ zs2 _ _ b2 _ ho.reads k1 (by omega)).mono ?_
    rintro e w' ⟨rfl, hb⟩
    exact ⟨rfl, cell_below hb hS.1 (by omega), cell_below hb hS.2.1 (by omega), cell_below hb hS.2.2.1 (by omega), cell_below hb hS.2.2.2.1 (by omega), cell_below hb hS.2.2.2.2.1 (by omega), cell_below hb hS.2.2.2.2.2.1 (by omega), cell_below hb hS.2.2.2.2.2.2.1 (by omega), cell_below hb hS.2.2.2.2.2.2.2.1 (by omega), cell_below hb hS.2.2.2.2.2.2.2.2.1 (by omega), cell_below hb hS.2.2.2.2.2.2.2.2.2.1 (by omega), cell_below hb hS.2.2.2.2.2.2.2.2.2.2.1 (by omega), cell_below hb hS.2.2.2.2.2.2.2.2.2.2.2.1 (by omega), cell_below hb hS.2.2.2.2.2.2.2.2.2.2.2.2.1 (by omega), cell_below hb hS.2.2.2.2.2.2.2.2.2.2.2.2.2.1 (by omega), cell_below hb hS.2.2.2.2.2.2.2.2.2.2.2.2.2.2.1 (by omega), cell_below hb hS.2.2.2.2.2.2.2.2.2.2.2.2.2.2.2.1 (by omega), hS.2.2.2.2.2.2.2.2.2.2.2.2.2.2.2.2.trans (hb.mono (by omega))⟩)
  go_region_held3 (fun w' => w'.cell? ⟨w.heap.size, 0, none⟩ = some (.slice a0 rows0.length c0) ∧ w'.cell? ⟨w.heap.size, 1, none⟩ = some (.slice e0 zs0.length d0) ∧ w'.cell? ⟨w.heap.size + 1, 0, none⟩ = some (.slice a1 zs1.length c1) ∧ w'.cell? ⟨w.heap.size + 1, 1, none⟩ = some (.int .i64 b1) ∧ w'.cell? ⟨w.heap.size + 1 + 1, 0, none⟩ = some (.slice a2 zs2.length c2) ∧ w'.cell? ⟨w.heap.size + 1 + 1, 1, none⟩ = some (.int .i64 b2) ∧ w'.cell? ⟨w.heap.size + 1 + 1 + 1, 0, none⟩ = some (.slice a3 zs3.length c3) ∧ w'.cell? ⟨w.heap.size + 1 + 1 + 1, 1, none⟩ = some (.int .i64 b3) ∧ w'.cell? ⟨w6.heap.size, 0, none⟩ = some (.slice x0a rows0.length x0c) ∧ w'.cell? ⟨w6.heap.size, 1, none⟩ = some (.slice x0e zs0.length x0d) ∧ w'.cell? ⟨w8.heap.size, 0, none⟩ = some (.slice x1a zs1.length x1c) ∧ w'.cell? ⟨w8.heap.size, 1, none⟩ = some (.int .i64 b1) ∧ w'.cell? ⟨w10.heap.size, 0, none⟩ = some (.slice x2a zs2.length x2c) ∧ w'.cell? ⟨w10.heap.size, 1, none⟩ = some (.int .i64 b2) ∧ w'.cell? ⟨w12.heap.size, 0, none⟩ = some (.slice x3a zs3.length x3c) ∧ w'.cell? ⟨w12.heap.size, 1, none⟩ = some (.int .i64 b3) ∧ Below w17.heap.size w17 w') (first | assumption | exact ⟨x0_0, x0_1, x1_0, x1_1, x2_0, x2_1, x3_0, x3_1, p0_0, p0_1, p1_0, p1_1, p2_0, p2_1, p3_0, p3_1, Below.refl _ _⟩ | exact ⟨x0_0, x0_1, x1_0, x1_1, x2_0, x2_1, x3_0, x3_1, p0_0, p0_1, p1_0, p1_1, p2_0, p2_1, p3_0, p3_1, (Below.refl _ _).drew⟩) (first | (go_at_call 18; refine Calls.mono (HT1.out _ ?_) ?_; assumption; rintro e w' ⟨p, q, rfl, k1, hbx⟩) | (go_at_call 20; refine Calls.mono (HT2.out _ _ _ ?_ ?_) ?_; assumption; assumption; rintro e w18 ⟨rfl, hbx⟩))
  obtain ⟨_, _, _, _, _, _, _, _, _, _, _, _, _, _, _, _, hb⟩ := hbx
  have s18 : w17.heap.size ≤ w18.heap.size := hb.size
  have n18_0 : w.heap.size < w18.heap.size := by omega
  have n18_1 : w.heap.size + 1 < w18.heap.size := by omega
  have n18_2 : w.heap.size + 1 + 1 < w18.heap.size := by omega
  have n18_3 : w.heap.size + 1 + 1 + 1 < w18.heap.size := by omega
  have n18_4 : w6.heap.size < w18.heap.size := by omega
  have n18_5 : w8.heap.size < w18.heap.size := by omega
  have n18_6 : w10.heap.size < w18.heap.size := by omega
  have n18_7 : w12.heap.size < w18.heap.size := by omega
  replace x0_0 := cell_below hb x0_0 (by omega)
  replace x0_1 := cell_below hb x0_1 (by omega)
  replace x1_0 := cell_below hb x1_0 (by omega)
  replace x1_1 := cell_below hb x1_1 (by omega)
  replace x2_0 := cell_below hb x2_0 (by omega)
  replace x2_1 := cell_below hb x2_1 (by omega)
  replace x3_0 := cell_below hb x3_0 (by omega)
  replace x3_1 := cell_below hb x3_1 (by omega)
  replace p0_0 := cell_below hb p0_0 (by omega)
  replace p0_1 := cell_below hb p0_1 (by omega)
  replace p1_0 := cell_below hb p1_0 (by omega)
  replace p1_1 := cell_below hb p1_1 (by omega)
  replace p2_0 := cell_below hb p2_0 (by omega)
  replace p2_1 := cell_below hb p2_1 (by omega)
  replace p3_0 := cell_below hb p3_0 (by omega)
  replace p3_1 := cell_below hb p3_1 (by omega)
  have HB18 := Lib.hid (HB17.out.trans (hb.mono (by omega)))
  replace Ov := Lib.hid (Ov.out.below hb)
  replace Ox0 := Lib.hid (Ox0.out.below hb)
  replace Ox1 := Lib.hid (Ox1.out.below hb)
  replace Ox2 := Lib.hid (Ox2.out.below hb)
  replace Ox3 := Lib.hid (Ox3.out.below hb)
  replace Og := Lib.hid (Og.out.below hb)
  clear hb
  clear HT1 HT2
  go_wp2_with fail
  have HT1 := Lib.hid (show ∀ wa : World, (wa.cell? ⟨w.heap.size, 0, none⟩ = some (.slice a0 rows0.length c0) ∧ wa.cell? ⟨w.heap.size, 1, none⟩ = some (.slice e0 zs0.length d0) ∧ wa.cell? ⟨w.heap.size + 1, 0, none⟩ = some (.slice a1 zs1.length c1) ∧ wa.cell? ⟨w.heap.size + 1, 1, none⟩ = some (.int .i64 b1) ∧ wa.cell? ⟨w.heap.size + 1 + 1, 0, none⟩ = some (.slice a2 zs2.length c2) ∧ wa.cell? ⟨w.heap.size + 1 + 1, 1, none⟩ = some (.int .i64 b2) ∧ wa.cell? ⟨w.heap.size + 1 + 1 + 1, 0, none⟩ = some (.slice a3 zs3.length c3) ∧ wa.cell? ⟨w.heap.size + 1 + 1 + 1, 1, none⟩ = some (.int .i64 b3) ∧ wa.cell? ⟨w6.heap.size, 0, none⟩ = some (.slice x0a rows0.length x0c) ∧ wa.cell? ⟨w6.heap.size, 1, none⟩ = some (.slice x0e zs0.length x0d) ∧ wa.cell? ⟨w8.heap.size, 0, none⟩ = some (.slice x1a zs1.length x1c) ∧ wa.cell? ⟨w8.heap.size, 1, none⟩ = some (.int .i64 b1) ∧ wa.cell? ⟨w10.heap.size, 0, none⟩ = some (.slice x2a zs2.length x2c) ∧ wa.cell? ⟨w10.heap.size, 1, none⟩ = some (.int .i64 b2) ∧ wa.cell? ⟨w12.heap.size, 0, none⟩ = some (.slice x3a zs3.length x3c) ∧ wa.cell? ⟨w12.heap.size, 1, none⟩ = some (.int .i64 b3) ∧ Below w18.heap.size w18 wa) → Calls Try.prog 18 #[.agg #[.slice a3 zs3.length c3, .int .i64 b3]] wa fun e w' => ∃ p q, e = .returned (.agg #[.slice p zs3.length q, .int .i64 b3]) ∧ ints.Reads .i64 w' p zs3 ∧ (w'.cell? ⟨w.heap.size, 0, none⟩ = some (.slice a0 rows0.length c0) ∧ w'.cell? ⟨w.heap.size, 1, none⟩ = some (.slice e0 zs0.length d0) ∧ w'.cell? ⟨w.heap.size + 1, 0, none⟩ = some (.slice a1 zs1.length c1) ∧ w'.cell? ⟨w.heap.size + 1, 1, none⟩ = some (.int .i64 b1) ∧ w'.cell? ⟨w.heap.size + 1 + 1, 0, none⟩ = some (.slice a2 zs2.length c2) ∧ w'.cell? ⟨w.heap.size + 1 + 1, 1, none⟩ = some (.int .i64 b2) ∧ w'.cell? ⟨w.heap.size + 1 + 1 + 1, 0, none⟩ = some (.slice a3 zs3.length c3) ∧ w'.cell? ⟨w.heap.size + 1 + 1 + 1, 1, none⟩ = some (.int .i64 b3) ∧ w'.cell? ⟨w6.heap.size, 0, none⟩ = some (.slice x0a rows0.length x0c) ∧ w'.cell? ⟨w6.heap.size, 1, none⟩ = some (.slice x0e zs0.length x0d) ∧ w'.cell? ⟨w8.heap.size, 0, none⟩ = some (.slice x1a zs1.length x1c) ∧ w'.cell? ⟨w8.heap.size, 1, none⟩ = some (.int .i64 b1) ∧ w'.cell? ⟨w10.heap.size, 0, none⟩ = some (.slice x2a zs2.length x2c) ∧ w'.cell? ⟨w10.heap.size, 1, none⟩ = some (.int .i64 b2) ∧ w'.cell? ⟨w12.heap.size, 0, none⟩ = some (.slice x3a zs3.length x3c) ∧ w'.cell? ⟨w12.heap.size, 1, none⟩ = some (.int .i64 b3) ∧ Below w18.heap.size w18 w') from fun wa hS => by
    have hz := hS.2.2.2.2.2.2.2.2.2.2.2.2.2.2.2.2.size
    refine (planefns.to_any a3 zs3 c3 b3 _ (HR3.out.below (HB18.out.trans (hS.2.2.2.2.2.2.2.2.2.2.2.2.2.2.2.2.mono (by omega)))) (by omega)).mono ?_
    rintro e w' ⟨v, rfl, ho, hb⟩
    obtain ⟨p, q, rfl, _, _, _⟩ := ho.slice
    exact ⟨p, q, rfl, ho.reads, cell_below hb hS.1 (by omega), cell_below hb hS.2.1 (by omega), cell_below hb hS.2.2.1 (by omega), cell_below hb hS.2.2.2.1 (by omega), cell_below hb hS.2.2.2.2.1 (by omega), cell_below hb hS.2.2.2.2.2.1 (by omega), cell_below hb hS.2.2.2.2.2.2.1 (by omega), cell_below hb hS.2.2.2.2.2.2.2.1 (by omega), cell_below hb hS.2.2.2.2.2.2.2.2.1 (by omega), cell_below hb hS.2.2.2.2.2.2.2.2.2.1 (by omega), cell_below hb hS.2.2.2.2.2.2.2.2.2.2.1 (by omega), cell_below hb hS.2.2.2.2.2.2.2.2.2.2.2.1 (by omega), cell_below hb hS.2.2.2.2.2.2.2.2.2.2.2.2.1 (by omega), cell_below hb hS.2.2.2.2.2.2.2.2.2.2.2.2.2.1 (by omega), cell_below hb hS.2.2.2.2.2.2.2.2.2.2.2.2.2.2.1 (by omega), cell_below hb hS.2.2.2.2.2.2.2.2.2.2.2.2.2.2.2.1 (by omega), hS.2.2.2.2.2.2.2.2.2.2.2.2.2.2.2.2.trans (hb.mono (by omega))⟩)
  have HT2 := Lib.hid (show ∀ (wa : World) (p : Option Addr) (q : Nat), (wa.cell? ⟨w.heap.size, 0, none⟩ = some (.slice a0 rows0.length c0) ∧ wa.cell? ⟨w.heap.size, 1, none⟩ = some (.slice e0 zs0.length d0) ∧ wa.cell? ⟨w.heap.size + 1, 0, none⟩ = some (.slice a1 zs1.length c1) ∧ wa.cell? ⟨w.heap.size + 1, 1, none⟩ = some (.int .i64 b1) ∧ wa.cell? ⟨w.heap.size + 1 + 1, 0, none⟩ = some (.slice a2 zs2.length c2) ∧ wa.cell? ⟨w.heap.size + 1 + 1, 1, none⟩ = some (.int .i64 b2) ∧ wa.cell? ⟨w.heap.size + 1 + 1 + 1, 0, none⟩ = some (.slice a3 zs3.length c3) ∧ wa.cell? ⟨w.heap.size + 1 + 1 + 1, 1, none⟩ = some (.int .i64 b3) ∧ wa.cell? ⟨w6.heap.size, 0, none⟩ = some (.slice x0a rows0.length x0c) ∧ wa.cell? ⟨w6.heap.size, 1, none⟩ = some (.slice x0e zs0.length x0d) ∧ wa.cell? ⟨w8.heap.size, 0, none⟩ = some (.slice x1a zs1.length x1c) ∧ wa.cell? ⟨w8.heap.size, 1, none⟩ = some (.int .i64 b1) ∧ wa.cell? ⟨w10.heap.size, 0, none⟩ = some (.slice x2a zs2.length x2c) ∧ wa.cell? ⟨w10.heap.size, 1, none⟩ = some (.int .i64 b2) ∧ wa.cell? ⟨w12.heap.size, 0, none⟩ = some (.slice x3a zs3.length x3c) ∧ wa.cell? ⟨w12.heap.size, 1, none⟩ = some (.int .i64 b3) ∧ Below w18.heap.size w18 wa) → ints.Reads .i64 wa p zs3 → Calls Try.prog 20 #[.agg #[.slice x3a zs3.length x3c, .int .i64 b3], .agg #[.slice p zs3.length q, .int .i64 b3]] wa fun e w' => e = .returned (.bool true) ∧ (w'.cell? ⟨w.heap.size, 0, none⟩ = some (.slice a0 rows0.length c0) ∧ w'.cell? ⟨w.heap.size, 1, none⟩ = some (.slice e0 zs0.length d0) ∧ w'.cell? ⟨w.heap.size + 1, 0, none⟩ = some (.slice a1 zs1.length c1) ∧ w'.cell? ⟨w.heap.size + 1, 1, none⟩ = some (.int .i64 b1) ∧ w'.cell? ⟨w.heap.size + 1 + 1, 0, none⟩ = some (.slice a2 zs2.length c2) ∧ w'.cell? ⟨w.heap.size + 1 + 1, 1, none⟩ = some (.int .i64 b2) ∧ w'.cell? ⟨w.heap.size + 1 + 1 + 1, 0, none⟩ = some (.slice a3 zs3.length c3) ∧ w'.cell? ⟨w.heap.size + 1 + 1 + 1, 1, none⟩ = some (.int .i64 b3) ∧ w'.cell? ⟨w6.heap.size, 0, none⟩ = some (.slice x0a rows0.length x0c) ∧ w'.cell? ⟨w6.heap.size, 1, none⟩ = some (.slice x0e zs0.length x0d) ∧ w'.cell? ⟨w8.heap.size, 0, none⟩ = some (.slice x1a zs1.length x1c) ∧ w'.cell? ⟨w8.heap.size, 1, none⟩ = some (.int .i64 b1) ∧ w'.cell? ⟨w10.heap.size, 0, none⟩ = some (.slice x2a zs2.length x2c) ∧ w'.cell? ⟨w10.heap.size, 1, none⟩ = some (.int .i64 b2) ∧ w'.cell? ⟨w12.heap.size, 0, none⟩ = some (.slice x3a zs3.length x3c) ∧ w'.cell? ⟨w12.heap.size, 1, none⟩ = some (.int .i64 b3) ∧ Below w18.heap.size w18 w') from fun wa p q hS k1 => by
    have hz := hS.2.2.2.2.2.2.2.2.2.2.2.2.2.2.2.2.size
    have ho := Ox3.out.below hS.2.2.2.2.2.2.2.2.2.2.2.2.2.2.2.2
    refine (planefns.eq_same _ _ zs3 _ _ b3 _ ho.reads k1 (by omega)).mono ?_
    rintro e w' ⟨rfl, hb⟩
    exact ⟨rfl, cell_below hb hS.1 (by omega), cell_below hb hS.2.1 (by omega), cell_below hb hS.2.2.1 (by omega), cell_below hb hS.2.2.2.1 (by omega), cell_below hb hS.2.2.2.2.1 (by omega), cell_below hb hS.2.2.2.2.2.1 (by omega), cell_below hb hS.2.2.2.2.2.2.1 (by omega), cell_below hb hS.2.2.2.2.2.2.2.1 (by omega), cell_below hb hS.2.2.2.2.2.2.2.2.1 (by omega), cell_below hb hS.2.2.2.2.2.2.2.2.2.1 (by omega), cell_below hb hS.2.2.2.2.2.2.2.2.2.2.1 (by omega), cell_below hb hS.2.2.2.2.2.2.2.2.2.2.2.1 (by omega), cell_below hb hS.2.2.2.2.2.2.2.2.2.2.2.2.1 (by omega), cell_below hb hS.2.2.2.2.2.2.2.2.2.2.2.2.2.1 (by omega), cell_below hb hS.2.2.2.2.2.2.2.2.2.2.2.2.2.2.1 (by omega), cell_below hb hS.2.2.2.2.2.2.2.2.2.2.2.2.2.2.2.1 (by omega), hS.2.2.2.2.2.2.2.2.2.2.2.2.2.2.2.2.trans (hb.mono (by omega))⟩)
  go_region_held3 (fun w' => w'.cell? ⟨w.heap.size, 0, none⟩ = some (.slice a0 rows0.length c0) ∧ w'.cell? ⟨w.heap.size, 1, none⟩ = some (.slice e0 zs0.length d0) ∧ w'.cell? ⟨w.heap.size + 1, 0, none⟩ = some (.slice a1 zs1.length c1) ∧ w'.cell? ⟨w.heap.size + 1, 1, none⟩ = some (.int .i64 b1) ∧ w'.cell? ⟨w.heap.size + 1 + 1, 0, none⟩ = some (.slice a2 zs2.length c2) ∧ w'.cell? ⟨w.heap.size + 1 + 1, 1, none⟩ = some (.int .i64 b2) ∧ w'.cell? ⟨w.heap.size + 1 + 1 + 1, 0, none⟩ = some (.slice a3 zs3.length c3) ∧ w'.cell? ⟨w.heap.size + 1 + 1 + 1, 1, none⟩ = some (.int .i64 b3) ∧ w'.cell? ⟨w6.heap.size, 0, none⟩ = some (.slice x0a rows0.length x0c) ∧ w'.cell? ⟨w6.heap.size, 1, none⟩ = some (.slice x0e zs0.length x0d) ∧ w'.cell? ⟨w8.heap.size, 0, none⟩ = some (.slice x1a zs1.length x1c) ∧ w'.cell? ⟨w8.heap.size, 1, none⟩ = some (.int .i64 b1) ∧ w'.cell? ⟨w10.heap.size, 0, none⟩ = some (.slice x2a zs2.length x2c) ∧ w'.cell? ⟨w10.heap.size, 1, none⟩ = some (.int .i64 b2) ∧ w'.cell? ⟨w12.heap.size, 0, none⟩ = some (.slice x3a zs3.length x3c) ∧ w'.cell? ⟨w12.heap.size, 1, none⟩ = some (.int .i64 b3) ∧ Below w18.heap.size w18 w') (first | assumption | exact ⟨x0_0, x0_1, x1_0, x1_1, x2_0, x2_1, x3_0, x3_1, p0_0, p0_1, p1_0, p1_1, p2_0, p2_1, p3_0, p3_1, Below.refl _ _⟩ | exact ⟨x0_0, x0_1, x1_0, x1_1, x2_0, x2_1, x3_0, x3_1, p0_0, p0_1, p1_0, p1_1, p2_0, p2_1, p3_0, p3_1, (Below.refl _ _).drew⟩) (first | (go_at_call 18; refine Calls.mono (HT1.out _ ?_) ?_; assumption; rintro e w' ⟨p, q, rfl, k1, hbx⟩) | (go_at_call 20; refine Calls.mono (HT2.out _ _ _ ?_ ?_) ?_; assumption; assumption; rintro e w19 ⟨rfl, hbx⟩))
  obtain ⟨_, _, _, _, _, _, _, _, _, _, _, _, _, _, _, _, hb⟩ := hbx
  have s19 : w18.heap.size ≤ w19.heap.size := hb.size
  have n19_0 : w.heap.size < w19.heap.size := by omega
  have n19_1 : w.heap.size + 1 < w19.heap.size := by omega
  have n19_2 : w.heap.size + 1 + 1 < w19.heap.size := by omega
  have n19_3 : w.heap.size + 1 + 1 + 1 < w19.heap.size := by omega
  have n19_4 : w6.heap.size < w19.heap.size := by omega
  have n19_5 : w8.heap.size < w19.heap.size := by omega
  have n19_6 : w10.heap.size < w19.heap.size := by omega
  have n19_7 : w12.heap.size < w19.heap.size := by omega
  replace x0_0 := cell_below hb x0_0 (by omega)
  replace x0_1 := cell_below hb x0_1 (by omega)
  replace x1_0 := cell_below hb x1_0 (by omega)
  replace x1_1 := cell_below hb x1_1 (by omega)
  replace x2_0 := cell_below hb x2_0 (by omega)
  replace x2_1 := cell_below hb x2_1 (by omega)
  replace x3_0 := cell_below hb x3_0 (by omega)
  replace x3_1 := cell_below hb x3_1 (by omega)
  replace p0_0 := cell_below hb p0_0 (by omega)
  replace p0_1 := cell_below hb p0_1 (by omega)
  replace p1_0 := cell_below hb p1_0 (by omega)
  replace p1_1 := cell_below hb p1_1 (by omega)
  replace p2_0 := cell_below hb p2_0 (by omega)
  replace p2_1 := cell_below hb p2_1 (by omega)
  replace p3_0 := cell_below hb p3_0 (by omega)
  replace p3_1 := cell_below hb p3_1 (by omega)
  have HB19 := Lib.hid (HB18.out.trans (hb.mono (by omega)))
  replace Ov := Lib.hid (Ov.out.below hb)
  replace Ox0 := Lib.hid (Ox0.out.below hb)
  replace Ox1 := Lib.hid (Ox1.out.below hb)
  replace Ox2 := Lib.hid (Ox2.out.below hb)
  replace Ox3 := Lib.hid (Ox3.out.below hb)
  replace Og := Lib.hid (Og.out.below hb)
  clear hb
  clear HT1 HT2
  go_wp2_with fail
  refine (samplefns.mark_any (w5.heap.size) (w6.heap.size) _ _ rows0 _ _ zs0 (1) _ Ox0.out (by omega) (by omega)).mono ?_
  rintro e w20 ⟨rfl, ho, hb⟩
  have s20 : w19.heap.size ≤ w20.heap.size := hb.size
  have n20_0 : w.heap.size < w20.heap.size := by omega
  have n20_1 : w.heap.size + 1 < w20.heap.size := by omega
  have n20_2 : w.heap.size + 1 + 1 < w20.heap.size := by omega
  have n20_3 : w.heap.size + 1 + 1 + 1 < w20.heap.size := by omega
  have n20_4 : w6.heap.size < w20.heap.size := by omega
  have n20_5 : w8.heap.size < w20.heap.size := by omega
  have n20_6 : w10.heap.size < w20.heap.size := by omega
  have n20_7 : w12.heap.size < w20.heap.size := by omega
  replace x0_0 := hb.cell x0_0 (by omega) (by omega)
  replace x0_1 := hb.cell x0_1 (by omega) (by omega)
  replace x1_0 := hb.cell x1_0 (by omega) (by omega)
  replace x1_1 := hb.cell x1_1 (by omega) (by omega)
  replace x2_0 := hb.cell x2_0 (by omega) (by omega)
  replace x2_1 := hb.cell x2_1 (by omega) (by omega)
  replace x3_0 := hb.cell x3_0 (by omega) (by omega)
  replace x3_1 := hb.cell x3_1 (by omega) (by omega)
  replace p0_0 := hb.cell p0_0 (by omega) (by omega)
  replace p0_1 := hb.cell p0_1 (by omega) (by omega)
  replace p1_0 := hb.cell p1_0 (by omega) (by omega)
  replace p1_1 := hb.cell p1_1 (by omega) (by omega)
  replace p2_0 := hb.cell p2_0 (by omega) (by omega)
  replace p2_1 := hb.cell p2_1 (by omega) (by omega)
  replace p3_0 := hb.cell p3_0 (by omega) (by omega)
  replace p3_1 := hb.cell p3_1 (by omega) (by omega)
  have HB20 := Lib.hid (HB19.out.trans ((hb.below (by omega)).mono (by omega)))
  replace Ov := Lib.hid (Ov.out.only hb (by omega))
  replace Ox1 := Lib.hid (Ox1.out.only hb (by omega))
  replace Ox2 := Lib.hid (Ox2.out.only hb (by omega))
  replace Ox3 := Lib.hid (Ox3.out.only hb (by omega))
  replace Og := Lib.hid (Og.out.only hb (by omega))
  clear hb
  replace Ox0 := Lib.hid ho
  clear ho
  go_wp2_with fail
  refine (planefns.mark_any (w7.heap.size) (w8.heap.size) _ _ zs1 b1 (1 + grid.tot rows0 + zs0.length) _ Ox1.out (by omega)).mono ?_
  rintro e w21 ⟨rfl, ho, hb⟩
  have s21 : w20.heap.size ≤ w21.heap.size := hb.size
  have n21_0 : w.heap.size < w21.heap.size := by omega
  have n21_1 : w.heap.size + 1 < w21.heap.size := by omega
  have n21_2 : w.heap.size + 1 + 1 < w21.heap.size := by omega
  have n21_3 : w.heap.size + 1 + 1 + 1 < w21.heap.size := by omega
  have n21_4 : w6.heap.size < w21.heap.size := by omega
  have n21_5 : w8.heap.size < w21.heap.size := by omega
  have n21_6 : w10.heap.size < w21.heap.size := by omega
  have n21_7 : w12.heap.size < w21.heap.size := by omega
  replace x0_0 := hb.cell x0_0 (by omega) (by omega)
  replace x0_1 := hb.cell x0_1 (by omega) (by omega)
  replace x1_0 := hb.cell x1_0 (by omega) (by omega)
  replace x1_1 := hb.cell x1_1 (by omega) (by omega)
  replace x2_0 := hb.cell x2_0 (by omega) (by omega)
  replace x2_1 := hb.cell x2_1 (by omega) (by omega)
  replace x3_0 := hb.cell x3_0 (by omega) (by omega)
  replace x3_1 := hb.cell x3_1 (by omega) (by omega)
  replace p0_0 := hb.cell p0_0 (by omega) (by omega)
  replace p0_1 := hb.cell p0_1 (by omega) (by omega)
  replace p1_0 := hb.cell p1_0 (by omega) (by omega)
  replace p1_1 := hb.cell p1_1 (by omega) (by omega)
  replace p2_0 := hb.cell p2_0 (by omega) (by omega)
  replace p2_1 := hb.cell p2_1 (by omega) (by omega)
  replace p3_0 := hb.cell p3_0 (by omega) (by omega)
  replace p3_1 := hb.cell p3_1 (by omega) (by omega)
  have HB21 := Lib.hid (HB20.out.trans ((hb.below (by omega)).mono (by omega)))
  replace Ov := Lib.hid (Ov.out.only hb (by omega))
  replace Ox0 := Lib.hid (Ox0.out.only hb (by omega))
  replace Ox2 := Lib.hid (Ox2.out.only hb (by omega))
  replace Ox3 := Lib.hid (Ox3.out.only hb (by omega))
  replace Og := Lib.hid (Og.out.only hb (by omega))
  clear hb
  replace Ox1 := Lib.hid ho
  clear ho
  go_wp2_with fail
  refine (planefns.mark_any (w9.heap.size) (w10.heap.size) _ _ zs2 b2 (1 + grid.tot rows0 + zs0.length + zs1.length) _ Ox2.out (by omega)).mono ?_
  rintro e w22 ⟨rfl, ho, hb⟩
  have s22 : w21.heap.size ≤ w22.heap.size := hb.size
  have n22_0 : w.heap.size < w22.heap.size := by omega
  have n22_1 : w.heap.size + 1 < w22.heap.size := by omega
  have n22_2 : w.heap.size + 1 + 1 < w22.heap.size := by omega
  have n22_3 : w.heap.size + 1 + 1 + 1 < w22.heap.size := by omega
  have n22_4 : w6.heap.size < w22.heap.size := by omega
  have n22_5 : w8.heap.size < w22.heap.size := by omega
  have n22_6 : w10.heap.size < w22.heap.size := by omega
  have n22_7 : w12.heap.size < w22.heap.size := by omega
  replace x0_0 := hb.cell x0_0 (by omega) (by omega)
  replace x0_1 := hb.cell x0_1 (by omega) (by omega)
  replace x1_0 := hb.cell x1_0 (by omega) (by omega)
  replace x1_1 := hb.cell x1_1 (by omega) (by omega)
  replace x2_0 := hb.cell x2_0 (by omega) (by omega)
  replace x2_1 := hb.cell x2_1 (by omega) (by omega)
  replace x3_0 := hb.cell x3_0 (by omega) (by omega)
  replace x3_1 := hb.cell x3_1 (by omega) (by omega)
  replace p0_0 := hb.cell p0_0 (by omega) (by omega)
  replace p0_1 := hb.cell p0_1 (by omega) (by omega)
  replace p1_0 := hb.cell p1_0 (by omega) (by omega)
  replace p1_1 := hb.cell p1_1 (by omega) (by omega)
  replace p2_0 := hb.cell p2_0 (by omega) (by omega)
  replace p2_1 := hb.cell p2_1 (by omega) (by omega)
  replace p3_0 := hb.cell p3_0 (by omega) (by omega)
  replace p3_1 := hb.cell p3_1 (by omega) (by omega)
  have HB22 := Lib.hid (HB21.out.trans ((hb.below (by omega)).mono (by omega)))
  replace Ov := Lib.hid (Ov.out.only hb (by omega))
  replace Ox0 := Lib.hid (Ox0.out.only hb (by omega))
  replace Ox1 := Lib.hid (Ox1.out.only hb (by omega))
  replace Ox3 := Lib.hid (Ox3.out.only hb (by omega))
  replace Og := Lib.hid (Og.out.only hb (by omega))
  clear hb
  replace Ox2 := Lib.hid ho
  clear ho
  go_wp2_with fail
  refine (planefns.mark_any (w11.heap.size) (w12.heap.size) _ _ zs3 b3 (1 + grid.tot rows0 + zs0.length + zs1.length + zs2.length) _ Ox3.out (by omega)).mono ?_
  rintro e w23 ⟨rfl, ho, hb⟩
  have s23 : w22.heap.size ≤ w23.heap.size := hb.size
  have n23_0 : w.heap.size < w23.heap.size := by omega
  have n23_1 : w.heap.size + 1 < w23.heap.size := by omega
  have n23_2 : w.heap.size + 1 + 1 < w23.heap.size := by omega
  have n23_3 : w.heap.size + 1 + 1 + 1 < w23.heap.size := by omega
  have n23_4 : w6.heap.size < w23.heap.size := by omega
  have n23_5 : w8.heap.size < w23.heap.size := by omega
  have n23_6 : w10.heap.size < w23.heap.size := by omega
  have n23_7 : w12.heap.size < w23.heap.size := by omega
  replace x0_0 := hb.cell x0_0 (by omega) (by omega)
  replace x0_1 := hb.cell x0_1 (by omega) (by omega)
  replace x1_0 := hb.cell x1_0 (by omega) (by omega)
  replace x1_1 := hb.cell x1_1 (by omega) (by omega)
  replace x2_0 := hb.cell x2_0 (by omega) (by omega)
  replace x2_1 := hb.cell x2_1 (by omega) (by omega)
  replace x3_0 := hb.cell x3_0 (by omega) (by omega)
  replace x3_1 := hb.cell x3_1 (by omega) (by omega)
  replace p0_0 := hb.cell p0_0 (by omega) (by omega)
  replace p0_1 := hb.cell p0_1 (by omega) (by omega)
  replace p1_0 := hb.cell p1_0 (by omega) (by omega)
  replace p1_1 := hb.cell p1_1 (by omega) (by omega)
  replace p2_0 := hb.cell p2_0 (by omega) (by omega)
  replace p2_1 := hb.cell p2_1 (by omega) (by omega)
  replace p3_0 := hb.cell p3_0 (by omega) (by omega)
  replace p3_1 := hb.cell p3_1 (by omega) (by omega)
  have HB23 := Lib.hid (HB22.out.trans ((hb.below (by omega)).mono (by omega)))
  replace Ov := Lib.hid (Ov.out.only hb (by omega))
  replace Ox0 := Lib.hid (Ox0.out.only hb (by omega))
  replace Ox1 := Lib.hid (Ox1.out.only hb (by omega))
  replace Ox2 := Lib.hid (Ox2.out.only hb (by omega))
  replace Og := Lib.hid (Og.out.only hb (by omega))
  clear hb
  replace Ox3 := Lib.hid ho
  clear ho
  go_wp2_with fail
  refine (intfns.eq_same _ _ r0 _ _ _ Og.out.reads Ov.out.reads (by omega)).mono ?_
  rintro e w24 ⟨rfl, hb⟩
  have s24 : w23.heap.size ≤ w24.heap.size := hb.size
  have n24_0 : w.heap.size < w24.heap.size := by omega
  have n24_1 : w.heap.size + 1 < w24.heap.size := by omega
  have n24_2 : w.heap.size + 1 + 1 < w24.heap.size := by omega
  have n24_3 : w.heap.size + 1 + 1 + 1 < w24.heap.size := by omega
  have n24_4 : w6.heap.size < w24.heap.size := by omega
  have n24_5 : w8.heap.size < w24.heap.size := by omega
  have n24_6 : w10.heap.size < w24.heap.size := by omega
  have n24_7 : w12.heap.size < w24.heap.size := by omega
  replace x0_0 := cell_below hb x0_0 (by omega)
  replace x0_1 := cell_below hb x0_1 (by omega)
  replace x1_0 := cell_below hb x1_0 (by omega)
  replace x1_1 := cell_below hb x1_1 (by omega)
  replace x2_0 := cell_below hb x2_0 (by omega)
  replace x2_1 := cell_below hb x2_1 (by omega)
  replace x3_0 := cell_below hb x3_0 (by omega)
  replace x3_1 := cell_below hb x3_1 (by omega)
  replace p0_0 := cell_below hb p0_0 (by omega)
  replace p0_1 := cell_below hb p0_1 (by omega)
  replace p1_0 := cell_below hb p1_0 (by omega)
  replace p1_1 := cell_below hb p1_1 (by omega)
  replace p2_0 := cell_below hb p2_0 (by omega)
  replace p2_1 := cell_below hb p2_1 (by omega)
  replace p3_0 := cell_below hb p3_0 (by omega)
  replace p3_1 := cell_below hb p3_1 (by omega)
  have HB24 := Lib.hid (HB23.out.trans (hb.mono (by omega)))
  replace Ov := Lib.hid (Ov.out.below hb)
  replace Ox0 := Lib.hid (Ox0.out.below hb)
  replace Ox1 := Lib.hid (Ox1.out.below hb)
  replace Ox2 := Lib.hid (Ox2.out.below hb)
  replace Ox3 := Lib.hid (Ox3.out.below hb)
  replace Og := Lib.hid (Og.out.below hb)
  clear hb
  go_wp2_with fail
  clear Ox0
  clear Ox1
  clear Ox2
  clear Ox3
  refine (intfns.mark_any (w13.heap.size) (w14.heap.size) _ _ r0 (1) _ Og.out (by omega)).mono ?_
  rintro e w25 ⟨rfl, ho, hg⟩
  have hb : Only (w13.heap.size) (w14.heap.size) w24 w25 := Only.of_grown (hg _ rfl) fun g hg => ⟨(Og.out.lt hg).1, (Og.out.lt hg).2.1⟩
  clear hg
  have s25 : w24.heap.size ≤ w25.heap.size := hb.size
  have n25_0 : w.heap.size < w25.heap.size := by omega
  have n25_1 : w.heap.size + 1 < w25.heap.size := by omega
  have n25_2 : w.heap.size + 1 + 1 < w25.heap.size := by omega
  have n25_3 : w.heap.size + 1 + 1 + 1 < w25.heap.size := by omega
  have n25_4 : w6.heap.size < w25.heap.size := by omega
  have n25_5 : w8.heap.size < w25.heap.size := by omega
  have n25_6 : w10.heap.size < w25.heap.size := by omega
  have n25_7 : w12.heap.size < w25.heap.size := by omega
  replace x0_0 := hb.cell x0_0 (by omega) (by omega)
  replace x0_1 := hb.cell x0_1 (by omega) (by omega)
  replace x1_0 := hb.cell x1_0 (by omega) (by omega)
  replace x1_1 := hb.cell x1_1 (by omega) (by omega)
  replace x2_0 := hb.cell x2_0 (by omega) (by omega)
  replace x2_1 := hb.cell x2_1 (by omega) (by omega)
  replace x3_0 := hb.cell x3_0 (by omega) (by omega)
  replace x3_1 := hb.cell x3_1 (by omega) (by omega)
  replace p0_0 := hb.cell p0_0 (by omega) (by omega)
  replace p0_1 := hb.cell p0_1 (by omega) (by omega)
  replace p1_0 := hb.cell p1_0 (by omega) (by omega)
  replace p1_1 := hb.cell p1_1 (by omega) (by omega)
  replace p2_0 := hb.cell p2_0 (by omega) (by omega)
  replace p2_1 := hb.cell p2_1 (by omega) (by omega)
  replace p3_0 := hb.cell p3_0 (by omega) (by omega)
  replace p3_1 := hb.cell p3_1 (by omega) (by omega)
  have HB25 := Lib.hid (HB24.out.trans ((hb.below (by omega)).mono (by omega)))
  replace Ov := Lib.hid (Ov.out.only hb (by omega))
  clear hb
  replace Og := Lib.hid ho
  clear ho
  go_wp2_with fail
  refine (intfns.held_any _ _ r0.length (1) _ Og.out.reads (by omega)).mono ?_
  rintro e w26 ⟨rfl, hb⟩
  have s26 : w25.heap.size ≤ w26.heap.size := hb.size
  have n26_0 : w.heap.size < w26.heap.size := by omega
  have n26_1 : w.heap.size + 1 < w26.heap.size := by omega
  have n26_2 : w.heap.size + 1 + 1 < w26.heap.size := by omega
  have n26_3 : w.heap.size + 1 + 1 + 1 < w26.heap.size := by omega
  have n26_4 : w6.heap.size < w26.heap.size := by omega
  have n26_5 : w8.heap.size < w26.heap.size := by omega
  have n26_6 : w10.heap.size < w26.heap.size := by omega
  have n26_7 : w12.heap.size < w26.heap.size := by omega
  replace x0_0 := cell_below hb x0_0 (by omega)
  replace x0_1 := cell_below hb x0_1 (by omega)
  replace x1_0 := cell_below hb x1_0 (by omega)
  replace x1_1 := cell_below hb x1_1 (by omega)
  replace x2_0 := cell_below hb x2_0 (by omega)
  replace x2_1 := cell_below hb x2_1 (by omega)
  replace x3_0 := cell_below hb x3_0 (by omega)
  replace x3_1 := cell_below hb x3_1 (by omega)
  replace p0_0 := cell_below hb p0_0 (by omega)
  replace p0_1 := cell_below hb p0_1 (by omega)
  replace p1_0 := cell_below hb p1_0 (by omega)
  replace p1_1 := cell_below hb p1_1 (by omega)
  replace p2_0 := cell_below hb p2_0 (by omega)
  replace p2_1 := cell_below hb p2_1 (by omega)
  replace p3_0 := cell_below hb p3_0 (by omega)
  replace p3_1 := cell_below hb p3_1 (by omega)
  have HB26 := Lib.hid (HB25.out.trans (hb.mono (by omega)))
  replace Ov := Lib.hid (Ov.out.below hb)
  replace Og := Lib.hid (Og.out.below hb)
  clear hb
  go_wp2_with fail
  have HT1 := Lib.hid (show ∀ (wa : World) , (wa.cell? ⟨w.heap.size, 0, none⟩ = some (.slice a0 rows0.length c0) ∧ wa.cell? ⟨w.heap.size, 1, none⟩ = some (.slice e0 zs0.length d0) ∧ wa.cell? ⟨w.heap.size + 1, 0, none⟩ = some (.slice a1 zs1.length c1) ∧ wa.cell? ⟨w.heap.size + 1, 1, none⟩ = some (.int .i64 b1) ∧ wa.cell? ⟨w.heap.size + 1 + 1, 0, none⟩ = some (.slice a2 zs2.length c2) ∧ wa.cell? ⟨w.heap.size + 1 + 1, 1, none⟩ = some (.int .i64 b2) ∧ wa.cell? ⟨w.heap.size + 1 + 1 + 1, 0, none⟩ = some (.slice a3 zs3.length c3) ∧ wa.cell? ⟨w.heap.size + 1 + 1 + 1, 1, none⟩ = some (.int .i64 b3) ∧ wa.cell? ⟨w6.heap.size, 0, none⟩ = some (.slice x0a rows0.length x0c) ∧ wa.cell? ⟨w6.heap.size, 1, none⟩ = some (.slice x0e zs0.length x0d) ∧ wa.cell? ⟨w8.heap.size, 0, none⟩ = some (.slice x1a zs1.length x1c) ∧ wa.cell? ⟨w8.heap.size, 1, none⟩ = some (.int .i64 b1) ∧ wa.cell? ⟨w10.heap.size, 0, none⟩ = some (.slice x2a zs2.length x2c) ∧ wa.cell? ⟨w10.heap.size, 1, none⟩ = some (.int .i64 b2) ∧ wa.cell? ⟨w12.heap.size, 0, none⟩ = some (.slice x3a zs3.length x3c) ∧ wa.cell? ⟨w12.heap.size, 1, none⟩ = some (.int .i64 b3) ∧ Below w26.heap.size w26 wa) → Calls Try.prog 23 #[.agg #[.slice a0 rows0.length c0, .slice e0 zs0.length d0]] wa fun e w' => ∃ p0 q0 u0 t0, e = .returned (.agg #[.slice p0 rows0.length q0, .slice u0 zs0.length t0]) ∧ grid.Reads w' p0 rows0 ∧ ints.Reads .i64 w' u0 zs0 ∧ w'.cell? ⟨w.heap.size, 0, none⟩ = some (.slice a0 rows0.length c0) ∧ w'.cell? ⟨w.heap.size, 1, none⟩ = some (.slice e0 zs0.length d0) ∧ w'.cell? ⟨w.heap.size + 1, 0, none⟩ = some (.slice a1 zs1.length c1) ∧ w'.cell? ⟨w.heap.size + 1, 1, none⟩ = some (.int .i64 b1) ∧ w'.cell? ⟨w.heap.size + 1 + 1, 0, none⟩ = some (.slice a2 zs2.length c2) ∧ w'.cell? ⟨w.heap.size + 1 + 1, 1, none⟩ = some (.int .i64 b2) ∧ w'.cell? ⟨w.heap.size + 1 + 1 + 1, 0, none⟩ = some (.slice a3 zs3.length c3) ∧ w'.cell? ⟨w.heap.size + 1 + 1 + 1, 1, none⟩ = some (.int .i64 b3) ∧ w'.cell? ⟨w6.heap.size, 0, none⟩ = some (.slice x0a rows0.length x0c) ∧ w'.cell? ⟨w6.heap.size, 1, none⟩ = some (.slice x0e zs0.length x0d) ∧ w'.cell? ⟨w8.heap.size, 0, none⟩ = some (.slice x1a zs1.length x1c) ∧ w'.cell? ⟨w8.heap.size, 1, none⟩ = some (.int .i64 b1) ∧ w'.cell? ⟨w10.heap.size, 0, none⟩ = some (.slice x2a zs2.length x2c) ∧ w'.cell? ⟨w10.heap.size, 1, none⟩ = some (.int .i64 b2) ∧ w'.cell? ⟨w12.heap.size, 0, none⟩ = some (.slice x3a zs3.length x3c) ∧ w'.cell? ⟨w12.heap.size, 1, none⟩ = some (.int .i64 b3) ∧ Below w26.heap.size w26 w' from fun wa  hS  => by
    have hz := hS.2.2.2.2.2.2.2.2.2.2.2.2.2.2.2.2.size
    refine (samplefns.to_any a0 rows0 c0 e0 zs0 d0 _ (HR0.out.below (HB26.out.trans (hS.2.2.2.2.2.2.2.2.2.2.2.2.2.2.2.2.mono (by omega)))) (HQ0.out.below (HB26.out.trans (hS.2.2.2.2.2.2.2.2.2.2.2.2.2.2.2.2.mono (by omega)))) (by omega) (by omega)).mono ?_
    rintro e w' ⟨v, l, rfl, ho, hb⟩
    obtain ⟨p0, q0, rfl, _, _, _⟩ := ho.grid.slice
    obtain ⟨u0, t0, rfl, _, _, _⟩ := ho.ints.slice
    exact ⟨p0, q0, u0, t0, rfl, ho.grid.reads, ho.ints.reads, cell_below hb hS.1 (by omega), cell_below hb hS.2.1 (by omega), cell_below hb hS.2.2.1 (by omega), cell_below hb hS.2.2.2.1 (by omega), cell_below hb hS.2.2.2.2.1 (by omega), cell_below hb hS.2.2.2.2.2.1 (by omega), cell_below hb hS.2.2.2.2.2.2.1 (by omega), cell_below hb hS.2.2.2.2.2.2.2.1 (by omega), cell_below hb hS.2.2.2.2.2.2.2.2.1 (by omega), cell_below hb hS.2.2.2.2.2.2.2.2.2.1 (by omega), cell_below hb hS.2.2.2.2.2.2.2.2.2.2.1 (by omega), cell_below hb hS.2.2.2.2.2.2.2.2.2.2.2.1 (by omega), cell_below hb hS.2.2.2.2.2.2.2.2.2.2.2.2.1 (by omega), cell_below hb hS.2.2.2.2.2.2.2.2.2.2.2.2.2.1 (by omega), cell_below hb hS.2.2.2.2.2.2.2.2.2.2.2.2.2.2.1 (by omega), cell_below hb hS.2.2.2.2.2.2.2.2.2.2.2.2.2.2.2.1 (by omega), hS.2.2.2.2.2.2.2.2.2.2.2.2.2.2.2.2.trans (hb.mono (by omega))⟩)
  have HT2 := Lib.hid (show ∀ (wa : World) (p0 : Option Addr) (u0 : Option Addr), (wa.cell? ⟨w.heap.size, 0, none⟩ = some (.slice a0 rows0.length c0) ∧ wa.cell? ⟨w.heap.size, 1, none⟩ = some (.slice e0 zs0.length d0) ∧ wa.cell? ⟨w.heap.size + 1, 0, none⟩ = some (.slice a1 zs1.length c1) ∧ wa.cell? ⟨w.heap.size + 1, 1, none⟩ = some (.int .i64 b1) ∧ wa.cell? ⟨w.heap.size + 1 + 1, 0, none⟩ = some (.slice a2 zs2.length c2) ∧ wa.cell? ⟨w.heap.size + 1 + 1, 1, none⟩ = some (.int .i64 b2) ∧ wa.cell? ⟨w.heap.size + 1 + 1 + 1, 0, none⟩ = some (.slice a3 zs3.length c3) ∧ wa.cell? ⟨w.heap.size + 1 + 1 + 1, 1, none⟩ = some (.int .i64 b3) ∧ wa.cell? ⟨w6.heap.size, 0, none⟩ = some (.slice x0a rows0.length x0c) ∧ wa.cell? ⟨w6.heap.size, 1, none⟩ = some (.slice x0e zs0.length x0d) ∧ wa.cell? ⟨w8.heap.size, 0, none⟩ = some (.slice x1a zs1.length x1c) ∧ wa.cell? ⟨w8.heap.size, 1, none⟩ = some (.int .i64 b1) ∧ wa.cell? ⟨w10.heap.size, 0, none⟩ = some (.slice x2a zs2.length x2c) ∧ wa.cell? ⟨w10.heap.size, 1, none⟩ = some (.int .i64 b2) ∧ wa.cell? ⟨w12.heap.size, 0, none⟩ = some (.slice x3a zs3.length x3c) ∧ wa.cell? ⟨w12.heap.size, 1, none⟩ = some (.int .i64 b3) ∧ Below w26.heap.size w26 wa) → grid.Reads wa p0 rows0 → ints.Reads .i64 wa u0 zs0 → Calls Try.prog 18 #[.agg #[.slice a1 zs1.length c1, .int .i64 b1]] wa fun e w' => ∃ p1 q1, e = .returned (.agg #[.slice p1 zs1.length q1, .int .i64 b1]) ∧ ints.Reads .i64 w' p1 zs1 ∧ zs1.length ≤ q1 ∧ grid.Reads w' p0 rows0 ∧ ints.Reads .i64 w' u0 zs0 ∧ w'.cell? ⟨w.heap.size, 0, none⟩ = some (.slice a0 rows0.length c0) ∧ w'.cell? ⟨w.heap.size, 1, none⟩ = some (.slice e0 zs0.length d0) ∧ w'.cell? ⟨w.heap.size + 1, 0, none⟩ = some (.slice a1 zs1.length c1) ∧ w'.cell? ⟨w.heap.size + 1, 1, none⟩ = some (.int .i64 b1) ∧ w'.cell? ⟨w.heap.size + 1 + 1, 0, none⟩ = some (.slice a2 zs2.length c2) ∧ w'.cell? ⟨w.heap.size + 1 + 1, 1, none⟩ = some (.int .i64 b2) ∧ w'.cell? ⟨w.heap.size + 1 + 1 + 1, 0, none⟩ = some (.slice a3 zs3.length c3) ∧ w'.cell? ⟨w.heap.size + 1 + 1 + 1, 1, none⟩ = some (.int .i64 b3) ∧ w'.cell? ⟨w6.heap.size, 0, none⟩ = some (.slice x0a rows0.length x0c) ∧ w'.cell? ⟨w6.heap.size, 1, none⟩ = some (.slice x0e zs0.length x0d) ∧ w'.cell? ⟨w8.heap.size, 0, none⟩ = some (.slice x1a zs1.length x1c) ∧ w'.cell? ⟨w8.heap.size, 1, none⟩ = some (.int .i64 b1) ∧ w'.cell? ⟨w10.heap.size, 0, none⟩ = some (.slice x2a zs2.length x2c) ∧ w'.cell? ⟨w10.heap.size, 1, none⟩ = some (.int .i64 b2) ∧ w'.cell? ⟨w12.heap.size, 0, none⟩ = some (.slice x3a zs3.length x3c) ∧ w'.cell? ⟨w12.heap.size, 1, none⟩ = some (.int .i64 b3) ∧ Below w26.heap.size w26 w' from fun wa p0 u0 hS k0 k1 => by
    have hz := hS.2.2.2.2.2.2.2.2.2.2.2.2.2.2.2.2.size
    refine (planefns.to_any a1 zs1 c1 b1 _ (HR1.out.below (HB26.out.trans (hS.2.2.2.2.2.2.2.2.2.2.2.2.2.2.2.2.mono (by omega)))) (by omega)).mono ?_
    rintro e w' ⟨v, rfl, ho, hb⟩
    obtain ⟨p1, q1, rfl, _, hcap9, _⟩ := ho.slice
    exact ⟨p1, q1, rfl, ho.reads, hcap9, k0.below hb, k1.below hb, cell_below hb hS.1 (by omega), cell_below hb hS.2.1 (by omega), cell_below hb hS.2.2.1 (by omega), cell_below hb hS.2.2.2.1 (by omega), cell_below hb hS.2.2.2.2.1 (by omega), cell_below hb hS.2.2.2.2.2.1 (by omega), cell_below hb hS.2.2.2.2.2.2.1 (by omega), cell_below hb hS.2.2.2.2.2.2.2.1 (by omega), cell_below hb hS.2.2.2.2.2.2.2.2.1 (by omega), cell_below hb hS.2.2.2.2.2.2.2.2.2.1 (by omega), cell_below hb hS.2.2.2.2.2.2.2.2.2.2.1 (by omega), cell_below hb hS.2.2.2.2.2.2.2.2.2.2.2.1 (by omega), cell_below hb hS.2.2.2.2.2.2.2.2.2.2.2.2.1 (by omega), cell_below hb hS.2.2.2.2.2.2.2.2.2.2.2.2.2.1 (by omega), cell_below hb hS.2.2.2.2.2.2.2.2.2.2.2.2.2.2.1 (by omega), cell_below hb hS.2.2.2.2.2.2.2.2.2.2.2.2.2.2.2.1 (by omega), hS.2.2.2.2.2.2.2.2.2.2.2.2.2.2.2.2.trans (hb.mono (by omega))⟩)
  have HT3 := Lib.hid (show ∀ (wa : World) (p0 : Option Addr) (u0 : Option Addr) (p1 : Option Addr) (q1 : Nat), (wa.cell? ⟨w.heap.size, 0, none⟩ = some (.slice a0 rows0.length c0) ∧ wa.cell? ⟨w.heap.size, 1, none⟩ = some (.slice e0 zs0.length d0) ∧ wa.cell? ⟨w.heap.size + 1, 0, none⟩ = some (.slice a1 zs1.length c1) ∧ wa.cell? ⟨w.heap.size + 1, 1, none⟩ = some (.int .i64 b1) ∧ wa.cell? ⟨w.heap.size + 1 + 1, 0, none⟩ = some (.slice a2 zs2.length c2) ∧ wa.cell? ⟨w.heap.size + 1 + 1, 1, none⟩ = some (.int .i64 b2) ∧ wa.cell? ⟨w.heap.size + 1 + 1 + 1, 0, none⟩ = some (.slice a3 zs3.length c3) ∧ wa.cell? ⟨w.heap.size + 1 + 1 + 1, 1, none⟩ = some (.int .i64 b3) ∧ wa.cell? ⟨w6.heap.size, 0, none⟩ = some (.slice x0a rows0.length x0c) ∧ wa.cell? ⟨w6.heap.size, 1, none⟩ = some (.slice x0e zs0.length x0d) ∧ wa.cell? ⟨w8.heap.size, 0, none⟩ = some (.slice x1a zs1.length x1c) ∧ wa.cell? ⟨w8.heap.size, 1, none⟩ = some (.int .i64 b1) ∧ wa.cell? ⟨w10.heap.size, 0, none⟩ = some (.slice x2a zs2.length x2c) ∧ wa.cell? ⟨w10.heap.size, 1, none⟩ = some (.int .i64 b2) ∧ wa.cell? ⟨w12.heap.size, 0, none⟩ = some (.slice x3a zs3.length x3c) ∧ wa.cell? ⟨w12.heap.size, 1, none⟩ = some (.int .i64 b3) ∧ Below w26.heap.size w26 wa) → ints.Reads .i64 wa p1 zs1 → zs1.length ≤ q1 → grid.Reads wa p0 rows0 → ints.Reads .i64 wa u0 zs0 → Calls Try.prog 18 #[.agg #[.slice a2 zs2.length c2, .int .i64 b2]] wa fun e w' => ∃ p2 q2, e = .returned (.agg #[.slice p2 zs2.length q2, .int .i64 b2]) ∧ ints.Reads .i64 w' p2 zs2 ∧ zs2.length ≤ q2 ∧ ints.Reads .i64 w' p1 zs1 ∧ zs1.length ≤ q1 ∧ grid.Reads w' p0 rows0 ∧ ints.Reads .i64 w' u0 zs0 ∧ w'.cell? ⟨w.heap.size, 0, none⟩ = some (.slice a0 rows0.length c0) ∧ w'.cell? ⟨w.heap.size, 1, none⟩ = some (.slice e0 zs0.length d0) ∧ w'.cell? ⟨w.heap.size + 1, 0, none⟩ = some (.slice a1 zs1.length c1) ∧ w'.cell? ⟨w.heap.size + 1, 1, none⟩ = some (.int .i64 b1) ∧ w'.cell? ⟨w.heap.size + 1 + 1, 0, none⟩ = some (.slice a2 zs2.length c2) ∧ w'.cell? ⟨w.heap.size + 1 + 1, 1, none⟩ = some (.int .i64 b2) ∧ w'.cell? ⟨w.heap.size + 1 + 1 + 1, 0, none⟩ = some (.slice a3 zs3.length c3) ∧ w'.cell? ⟨w.heap.size + 1 + 1 + 1, 1, none⟩ = some (.int .i64 b3) ∧ w'.cell? ⟨w6.heap.size, 0, none⟩ = some (.slice x0a rows0.length x0c) ∧ w'.cell? ⟨w6.heap.size, 1, none⟩ = some (.slice x0e zs0.length x0d) ∧ w'.cell? ⟨w8.heap.size, 0, none⟩ = some (.slice x1a zs1.length x1c) ∧ w'.cell? ⟨w8.heap.size, 1, none⟩ = some (.int .i64 b1) ∧ w'.cell? ⟨w10.heap.size, 0, none⟩ = some (.slice x2a zs2.length x2c) ∧ w'.cell? ⟨w10.heap.size, 1, none⟩ = some (.int .i64 b2) ∧ w'.cell? ⟨w12.heap.size, 0, none⟩ = some (.slice x3a zs3.length x3c) ∧ w'.cell? ⟨w12.heap.size, 1, none⟩ = some (.int .i64 b3) ∧ Below w26.heap.size w26 w' from fun wa p0 u0 p1 q1 hS k0 k1 k2 k3 => by
    have hz := hS.2.2.2.2.2.2.2.2.2.2.2.2.2.2.2.2.size
    refine (planefns.to_any a2 zs2 c2 b2 _ (HR2.out.below (HB26.out.trans (hS.2.2.2.2.2.2.2.2.2.2.2.2.2.2.2.2.mono (by omega)))) (by omega)).mono ?_
    rintro e w' ⟨v, rfl, ho, hb⟩
    obtain ⟨p2, q2, rfl, _, hcap9, _⟩ := ho.slice
    exact ⟨p2, q2, rfl, ho.reads, hcap9, k0.below hb, k1, k2.below hb, k3.below hb, cell_below hb hS.1 (by omega), cell_below hb hS.2.1 (by omega), cell_below hb hS.2.2.1 (by omega), cell_below hb hS.2.2.2.1 (by omega), cell_below hb hS.2.2.2.2.1 (by omega), cell_below hb hS.2.2.2.2.2.1 (by omega), cell_below hb hS.2.2.2.2.2.2.1 (by omega), cell_below hb hS.2.2.2.2.2.2.2.1 (by omega), cell_below hb hS.2.2.2.2.2.2.2.2.1 (by omega), cell_below hb hS.2.2.2.2.2.2.2.2.2.1 (by omega), cell_below hb hS.2.2.2.2.2.2.2.2.2.2.1 (by omega), cell_below hb hS.2.2.2.2.2.2.2.2.2.2.2.1 (by omega), cell_below hb hS.2.2.2.2.2.2.2.2.2.2.2.2.1 (by omega), cell_below hb hS.2.2.2.2.2.2.2.2.2.2.2.2.2.1 (by omega), cell_below hb hS.2.2.2.2.2.2.2.2.2.2.2.2.2.2.1 (by omega), cell_below hb hS.2.2.2.2.2.2.2.2.2.2.2.2.2.2.2.1 (by omega), hS.2.2.2.2.2.2.2.2.2.2.2.2.2.2.2.2.trans (hb.mono (by omega))⟩)
  have HT4 := Lib.hid (show ∀ (wa : World) (p0 : Option Addr) (u0 : Option Addr) (p1 : Option Addr) (q1 : Nat) (p2 : Option Addr) (q2 : Nat), (wa.cell? ⟨w.heap.size, 0, none⟩ = some (.slice a0 rows0.length c0) ∧ wa.cell? ⟨w.heap.size, 1, none⟩ = some (.slice e0 zs0.length d0) ∧ wa.cell? ⟨w.heap.size + 1, 0, none⟩ = some (.slice a1 zs1.length c1) ∧ wa.cell? ⟨w.heap.size + 1, 1, none⟩ = some (.int .i64 b1) ∧ wa.cell? ⟨w.heap.size + 1 + 1, 0, none⟩ = some (.slice a2 zs2.length c2) ∧ wa.cell? ⟨w.heap.size + 1 + 1, 1, none⟩ = some (.int .i64 b2) ∧ wa.cell? ⟨w.heap.size + 1 + 1 + 1, 0, none⟩ = some (.slice a3 zs3.length c3) ∧ wa.cell? ⟨w.heap.size + 1 + 1 + 1, 1, none⟩ = some (.int .i64 b3) ∧ wa.cell? ⟨w6.heap.size, 0, none⟩ = some (.slice x0a rows0.length x0c) ∧ wa.cell? ⟨w6.heap.size, 1, none⟩ = some (.slice x0e zs0.length x0d) ∧ wa.cell? ⟨w8.heap.size, 0, none⟩ = some (.slice x1a zs1.length x1c) ∧ wa.cell? ⟨w8.heap.size, 1, none⟩ = some (.int .i64 b1) ∧ wa.cell? ⟨w10.heap.size, 0, none⟩ = some (.slice x2a zs2.length x2c) ∧ wa.cell? ⟨w10.heap.size, 1, none⟩ = some (.int .i64 b2) ∧ wa.cell? ⟨w12.heap.size, 0, none⟩ = some (.slice x3a zs3.length x3c) ∧ wa.cell? ⟨w12.heap.size, 1, none⟩ = some (.int .i64 b3) ∧ Below w26.heap.size w26 wa) → ints.Reads .i64 wa p2 zs2 → zs2.length ≤ q2 → ints.Reads .i64 wa p1 zs1 → zs1.length ≤ q1 → grid.Reads wa p0 rows0 → ints.Reads .i64 wa u0 zs0 → Calls Try.prog 18 #[.agg #[.slice a3 zs3.length c3, .int .i64 b3]] wa fun e w' => ∃ p3 q3, e = .returned (.agg #[.slice p3 zs3.length q3, .int .i64 b3]) ∧ ints.Reads .i64 w' p3 zs3 ∧ zs3.length ≤ q3 ∧ ints.Reads .i64 w' p2 zs2 ∧ zs2.length ≤ q2 ∧ ints.Reads .i64 w' p1 zs1 ∧ zs1.length ≤ q1 ∧ grid.Reads w' p0 rows0 ∧ ints.Reads .i64 w' u0 zs0 ∧ w'.cell? ⟨w.heap.size, 0, none⟩ = some (.slice a0 rows0.length c0) ∧ w'.cell? ⟨w.heap.size, 1, none⟩ = some (.slice e0 zs0.length d0) ∧ w'.cell? ⟨w.heap.size + 1, 0, none⟩ = some (.slice a1 zs1.length c1) ∧ w'.cell? ⟨w.heap.size + 1, 1, none⟩ = some (.int .i64 b1) ∧ w'.cell? ⟨w.heap.size + 1 + 1, 0, none⟩ = some (.slice a2 zs2.length c2) ∧ w'.cell? ⟨w.heap.size + 1 + 1, 1, none⟩ = some (.int .i64 b2) ∧ w'.cell? ⟨w.heap.size + 1 + 1 + 1, 0, none⟩ = some (.slice a3 zs3.length c3) ∧ w'.cell? ⟨w.heap.size + 1 + 1 + 1, 1, none⟩ = some (.int .i64 b3) ∧ w'.cell? ⟨w6.heap.size, 0, none⟩ = some (.slice x0a rows0.length x0c) ∧ w'.cell? ⟨w6.heap.size, 1, none⟩ = some (.slice x0e zs0.length x0d) ∧ w'.cell? ⟨w8.heap.size, 0, none⟩ = some (.slice x1a zs1.length x1c) ∧ w'.cell? ⟨w8.heap.size, 1, none⟩ = some (.int .i64 b1) ∧ w'.cell? ⟨w10.heap.size, 0, none⟩ = some (.slice x2a zs2.length x2c) ∧ w'.cell? ⟨w10.heap.size, 1, none⟩ = some (.int .i64 b2) ∧ w'.cell? ⟨w12.heap.size, 0, none⟩ = some (.slice x3a zs3.length x3c) ∧ w'.cell? ⟨w12.heap.size, 1, none⟩ = some (.int .i64 b3) ∧ Below w26.heap.size w26 w' from fun wa p0 u0 p1 q1 p2 q2 hS k0 k1 k2 k3 k4 k5 => by
    have hz := hS.2.2.2.2.2.2.2.2.2.2.2.2.2.2.2.2.size
    refine (planefns.to_any a3 zs3 c3 b3 _ (HR3.out.below (HB26.out.trans (hS.2.2.2.2.2.2.2.2.2.2.2.2.2.2.2.2.mono (by omega)))) (by omega)).mono ?_
    rintro e w' ⟨v, rfl, ho, hb⟩
    obtain ⟨p3, q3, rfl, _, hcap9, _⟩ := ho.slice
    exact ⟨p3, q3, rfl, ho.reads, hcap9, k0.below hb, k1, k2.below hb, k3, k4.below hb, k5.below hb, cell_below hb hS.1 (by omega), cell_below hb hS.2.1 (by omega), cell_below hb hS.2.2.1 (by omega), cell_below hb hS.2.2.2.1 (by omega), cell_below hb hS.2.2.2.2.1 (by omega), cell_below hb hS.2.2.2.2.2.1 (by omega), cell_below hb hS.2.2.2.2.2.2.1 (by omega), cell_below hb hS.2.2.2.2.2.2.2.1 (by omega), cell_below hb hS.2.2.2.2.2.2.2.2.1 (by omega), cell_below hb hS.2.2.2.2.2.2.2.2.2.1 (by omega), cell_below hb hS.2.2.2.2.2.2.2.2.2.2.1 (by omega), cell_below hb hS.2.2.2.2.2.2.2.2.2.2.2.1 (by omega), cell_below hb hS.2.2.2.2.2.2.2.2.2.2.2.2.1 (by omega), cell_below hb hS.2.2.2.2.2.2.2.2.2.2.2.2.2.1 (by omega), cell_below hb hS.2.2.2.2.2.2.2.2.2.2.2.2.2.2.1 (by omega), cell_below hb hS.2.2.2.2.2.2.2.2.2.2.2.2.2.2.2.1 (by omega), hS.2.2.2.2.2.2.2.2.2.2.2.2.2.2.2.2.trans (hb.mono (by omega))⟩)
  have HT5 := Lib.hid (show ∀ (wa : World) (p0 : Option Addr) (q0 : Nat) (u0 : Option Addr) (t0 : Nat) (p1 : Option Addr) (q1 : Nat) (p2 : Option Addr) (q2 : Nat) (p3 : Option Addr) (q3 : Nat), (wa.cell? ⟨w.heap.size, 0, none⟩ = some (.slice a0 rows0.length c0) ∧ wa.cell? ⟨w.heap.size, 1, none⟩ = some (.slice e0 zs0.length d0) ∧ wa.cell? ⟨w.heap.size + 1, 0, none⟩ = some (.slice a1 zs1.length c1) ∧ wa.cell? ⟨w.heap.size + 1, 1, none⟩ = some (.int .i64 b1) ∧ wa.cell? ⟨w.heap.size + 1 + 1, 0, none⟩ = some (.slice a2 zs2.length c2) ∧ wa.cell? ⟨w.heap.size + 1 + 1, 1, none⟩ = some (.int .i64 b2) ∧ wa.cell? ⟨w.heap.size + 1 + 1 + 1, 0, none⟩ = some (.slice a3 zs3.length c3) ∧ wa.cell? ⟨w.heap.size + 1 + 1 + 1, 1, none⟩ = some (.int .i64 b3) ∧ wa.cell? ⟨w6.heap.size, 0, none⟩ = some (.slice x0a rows0.length x0c) ∧ wa.cell? ⟨w6.heap.size, 1, none⟩ = some (.slice x0e zs0.length x0d) ∧ wa.cell? ⟨w8.heap.size, 0, none⟩ = some (.slice x1a zs1.length x1c) ∧ wa.cell? ⟨w8.heap.size, 1, none⟩ = some (.int .i64 b1) ∧ wa.cell? ⟨w10.heap.size, 0, none⟩ = some (.slice x2a zs2.length x2c) ∧ wa.cell? ⟨w10.heap.size, 1, none⟩ = some (.int .i64 b2) ∧ wa.cell? ⟨w12.heap.size, 0, none⟩ = some (.slice x3a zs3.length x3c) ∧ wa.cell? ⟨w12.heap.size, 1, none⟩ = some (.int .i64 b3) ∧ Below w26.heap.size w26 wa) → ints.Reads .i64 wa p3 zs3 → zs3.length ≤ q3 → ints.Reads .i64 wa p2 zs2 → zs2.length ≤ q2 → ints.Reads .i64 wa p1 zs1 → zs1.length ≤ q1 → grid.Reads wa p0 rows0 → ints.Reads .i64 wa u0 zs0 → Calls Try.prog 58 #[.agg #[.slice p0 rows0.length q0, .slice u0 zs0.length t0], .agg #[.slice p1 zs1.length q1, .int .i64 b1], .agg #[.slice p2 zs2.length q2, .int .i64 b2], .agg #[.slice p3 zs3.length q3, .int .i64 b3]] wa fun e w' => ∃ ha hc, e = .returned (.tuple #[.slice ha r0.length hc, .bool ok]) ∧ OwnI w26.heap.size w'.heap.size w' (.slice ha r0.length hc) r0 ∧ w'.cell? ⟨w.heap.size, 0, none⟩ = some (.slice a0 rows0.length c0) ∧ w'.cell? ⟨w.heap.size, 1, none⟩ = some (.slice e0 zs0.length d0) ∧ w'.cell? ⟨w.heap.size + 1, 0, none⟩ = some (.slice a1 zs1.length c1) ∧ w'.cell? ⟨w.heap.size + 1, 1, none⟩ = some (.int .i64 b1) ∧ w'.cell? ⟨w.heap.size + 1 + 1, 0, none⟩ = some (.slice a2 zs2.length c2) ∧ w'.cell? ⟨w.heap.size + 1 + 1, 1, none⟩ = some (.int .i64 b2) ∧ w'.cell? ⟨w.heap.size + 1 + 1 + 1, 0, none⟩ = some (.slice a3 zs3.length c3) ∧ w'.cell? ⟨w.heap.size + 1 + 1 + 1, 1, none⟩ = some (.int .i64 b3) ∧ w'.cell? ⟨w6.heap.size, 0, none⟩ = some (.slice x0a rows0.length x0c) ∧ w'.cell? ⟨w6.heap.size, 1, none⟩ = some (.slice x0e zs0.length x0d) ∧ w'.cell? ⟨w8.heap.size, 0, none⟩ = some (.slice x1a zs1.length x1c) ∧ w'.cell? ⟨w8.heap.size, 1, none⟩ = some (.int .i64 b1) ∧ w'.cell? ⟨w10.heap.size, 0, none⟩ = some (.slice x2a zs2.length x2c) ∧ w'.cell? ⟨w10.heap.size, 1, none⟩ = some (.int .i64 b2) ∧ w'.cell? ⟨w12.heap.size, 0, none⟩ = some (.slice x3a zs3.length x3c) ∧ w'.cell? ⟨w12.heap.size, 1, none⟩ = some (.int .i64 b3) ∧ Below w26.heap.size w26 w' from fun wa p0 q0 u0 t0 p1 q1 p2 q2 p3 q3 hS k0 k1 k2 k3 k4 k5 k6 k7 => by
    have hz := hS.2.2.2.2.2.2.2.2.2.2.2.2.2.2.2.2.size
    refine (HImpl.out _ _ _ _ _ _ _ _ _ _ _ k6 k7 k4 k5 k2 k3 k0 k1).mono ?_
    rintro e w' ⟨v, rfl, ho, hb⟩
    obtain ⟨ha, hc, rfl, _, _, _⟩ := ho.slice
    exact ⟨ha, hc, rfl, ho.mono hz (Nat.le_refl _), cell_below hb hS.1 (by omega), cell_below hb hS.2.1 (by omega), cell_below hb hS.2.2.1 (by omega), cell_below hb hS.2.2.2.1 (by omega), cell_below hb hS.2.2.2.2.1 (by omega), cell_below hb hS.2.2.2.2.2.1 (by omega), cell_below hb hS.2.2.2.2.2.2.1 (by omega), cell_below hb hS.2.2.2.2.2.2.2.1 (by omega), cell_below hb hS.2.2.2.2.2.2.2.2.1 (by omega), cell_below hb hS.2.2.2.2.2.2.2.2.2.1 (by omega), cell_below hb hS.2.2.2.2.2.2.2.2.2.2.1 (by omega), cell_below hb hS.2.2.2.2.2.2.2.2.2.2.2.1 (by omega), cell_below hb hS.2.2.2.2.2.2.2.2.2.2.2.2.1 (by omega), cell_below hb hS.2.2.2.2.2.2.2.2.2.2.2.2.2.1 (by omega), cell_below hb hS.2.2.2.2.2.2.2.2.2.2.2.2.2.2.1 (by omega), cell_below hb hS.2.2.2.2.2.2.2.2.2.2.2.2.2.2.2.1 (by omega), hS.2.2.2.2.2.2.2.2.2.2.2.2.2.2.2.2.trans (hb.mono (by omega))⟩)
  go_region_held3 (fun w' => w'.cell? ⟨w.heap.size, 0, none⟩ = some (.slice a0 rows0.length c0) ∧ w'.cell? ⟨w.heap.size, 1, none⟩ = some (.slice e0 zs0.length d0) ∧ w'.cell? ⟨w.heap.size + 1, 0, none⟩ = some (.slice a1 zs1.length c1) ∧ w'.cell? ⟨w.heap.size + 1, 1, none⟩ = some (.int .i64 b1) ∧ w'.cell? ⟨w.heap.size + 1 + 1, 0, none⟩ = some (.slice a2 zs2.length c2) ∧ w'.cell? ⟨w.heap.size + 1 + 1, 1, none⟩ = some (.int .i64 b2) ∧ w'.cell? ⟨w.heap.size + 1 + 1 + 1, 0, none⟩ = some (.slice a3 zs3.length c3) ∧ w'.cell? ⟨w.heap.size + 1 + 1 + 1, 1, none⟩ = some (.int .i64 b3) ∧ w'.cell? ⟨w6.heap.size, 0, none⟩ = some (.slice x0a rows0.length x0c) ∧ w'.cell? ⟨w6.heap.size, 1, none⟩ = some (.slice x0e zs0.length x0d) ∧ w'.cell? ⟨w8.heap.size, 0, none⟩ = some (.slice x1a zs1.length x1c) ∧ w'.cell? ⟨w8.heap.size, 1, none⟩ = some (.int .i64 b1) ∧ w'.cell? ⟨w10.heap.size, 0, none⟩ = some (.slice x2a zs2.length x2c) ∧ w'.cell? ⟨w10.heap.size, 1, none⟩ = some (.int .i64 b2) ∧ w'.cell? ⟨w12.heap.size, 0, none⟩ = some (.slice x3a zs3.length x3c) ∧ w'.cell? ⟨w12.heap.size, 1, none⟩ = some (.int .i64 b3) ∧ Below w26.heap.size w26 w') (first | assumption | exact ⟨x0_0, x0_1, x1_0, x1_1, x2_0, x2_1, x3_0, x3_1, p0_0, p0_1, p1_0, p1_1, p2_0, p2_1, p3_0, p3_1, Below.refl _ _⟩ | exact ⟨x0_0, x0_1, x1_0, x1_1, x2_0, x2_1, x3_0, x3_1, p0_0, p0_1, p1_0, p1_1, p2_0, p2_1, p3_0, p3_1, (Below.refl _ _).drew⟩) (first | (go_at_call 23; refine Calls.mono (HT1.out _  (by assumption)) ?_; rintro e w' ⟨p0, q0, u0, t0, rfl, m1_0, m1_1, hbx⟩) | (go_at_call_of 18 (Value.agg #[.slice a1 zs1.length c1, .int .i64 b1]); refine Calls.mono (HT2.out _ _ _ (by assumption) (by assumption) (by assumption)) ?_; rintro e w' ⟨p1, q1, rfl, m2_0, m2_1, m2_2, m2_3, hbx⟩) | (go_at_call_of 18 (Value.agg #[.slice a2 zs2.length c2, .int .i64 b2]); refine Calls.mono (HT3.out _ _ _ _ _ (by assumption) (by assumption) (by assumption) (by assumption) (by assumption)) ?_; rintro e w' ⟨p2, q2, rfl, m3_0, m3_1, m3_2, m3_3, m3_4, m3_5, hbx⟩) | (go_at_call_of 18 (Value.agg #[.slice a3 zs3.length c3, .int .i64 b3]); refine Calls.mono (HT4.out _ _ _ _ _ _ _ (by assumption) (by assumption) (by assumption) (by assumption) (by assumption) (by assumption) (by assumption)) ?_; rintro e w' ⟨p3, q3, rfl, m4_0, m4_1, m4_2, m4_3, m4_4, m4_5, m4_6, m4_7, hbx⟩) | (go_at_call 58; refine Calls.mono (HT5.out _ _ _ _ _ _ _ _ _ _ _ (by assumption) (by assumption) (by assumption) (by assumption) (by assumption) (by assumption) (by assumption) (by assumption) (by assumption)) ?_; rintro e w27 ⟨ha, hc, rfl, ho, hbx⟩))
  obtain ⟨_, _, _, _, _, _, _, _, _, _, _, _, _, _, _, _, hb⟩ := hbx
  have s27 : w26.heap.size ≤ w27.heap.size := hb.size
  have n27_0 : w.heap.size < w27.heap.size := by omega
  have n27_1 : w.heap.size + 1 < w27.heap.size := by omega
  have n27_2 : w.heap.size + 1 + 1 < w27.heap.size := by omega
  have n27_3 : w.heap.size + 1 + 1 + 1 < w27.heap.size := by omega
  have n27_4 : w6.heap.size < w27.heap.size := by omega
  have n27_5 : w8.heap.size < w27.heap.size := by omega
  have n27_6 : w10.heap.size < w27.heap.size := by omega
  have n27_7 : w12.heap.size < w27.heap.size := by omega
  replace x0_0 := cell_below hb x0_0 (by omega)
  replace x0_1 := cell_below hb x0_1 (by omega)
  replace x1_0 := cell_below hb x1_0 (by omega)
  replace x1_1 := cell_below hb x1_1 (by omega)
  replace x2_0 := cell_below hb x2_0 (by omega)
  replace x2_1 := cell_below hb x2_1 (by omega)
  replace x3_0 := cell_below hb x3_0 (by omega)
  replace x3_1 := cell_below hb x3_1 (by omega)
  replace p0_0 := cell_below hb p0_0 (by omega)
  replace p0_1 := cell_below hb p0_1 (by omega)
  replace p1_0 := cell_below hb p1_0 (by omega)
  replace p1_1 := cell_below hb p1_1 (by omega)
  replace p2_0 := cell_below hb p2_0 (by omega)
  replace p2_1 := cell_below hb p2_1 (by omega)
  replace p3_0 := cell_below hb p3_0 (by omega)
  replace p3_1 := cell_below hb p3_1 (by omega)
  have HB27 := Lib.hid (HB26.out.trans (hb.mono (by omega)))
  replace Ov := Lib.hid (Ov.out.below hb)
  replace Og := Lib.hid (Og.out.below hb)
  clear hb
  clear HT1 HT2 HT3 HT4 HT5
  have Oh := Lib.hid ho
  clear ho
  go_wp2_with fail
  refine (intfns.eq_same _ _ r0 _ _ _ Oh.out.reads Ov.out.reads (by omega)).mono ?_
  rintro e w28 ⟨rfl, hb⟩
  have s28 : w27.heap.size ≤ w28.heap.size := hb.size
  have n28_0 : w.heap.size < w28.heap.size := by omega
  have n28_1 : w.heap.size + 1 < w28.heap.size := by omega
  have n28_2 : w.heap.size + 1 + 1 < w28.heap.size := by omega
  have n28_3 : w.heap.size + 1 + 1 + 1 < w28.heap.size := by omega
  have n28_4 : w6.heap.size < w28.heap.size := by omega
  have n28_5 : w8.heap.size < w28.heap.size := by omega
  have n28_6 : w10.heap.size < w28.heap.size := by omega
  have n28_7 : w12.heap.size < w28.heap.size := by omega
  replace x0_0 := cell_below hb x0_0 (by omega)
  replace x0_1 := cell_below hb x0_1 (by omega)
  replace x1_0 := cell_below hb x1_0 (by omega)
  replace x1_1 := cell_below hb x1_1 (by omega)
  replace x2_0 := cell_below hb x2_0 (by omega)
  replace x2_1 := cell_below hb x2_1 (by omega)
  replace x3_0 := cell_below hb x3_0 (by omega)
  replace x3_1 := cell_below hb x3_1 (by omega)
  replace p0_0 := cell_below hb p0_0 (by omega)
  replace p0_1 := cell_below hb p0_1 (by omega)
  replace p1_0 := cell_below hb p1_0 (by omega)
  replace p1_1 := cell_below hb p1_1 (by omega)
  replace p2_0 := cell_below hb p2_0 (by omega)
  replace p2_1 := cell_below hb p2_1 (by omega)
  replace p3_0 := cell_below hb p3_0 (by omega)
  replace p3_1 := cell_below hb p3_1 (by omega)
  have HB28 := Lib.hid (HB27.out.trans (hb.mono (by omega)))
  replace Ov := Lib.hid (Ov.out.below hb)
  replace Og := Lib.hid (Og.out.below hb)
  replace Oh := Lib.hid (Oh.out.below hb)
  clear hb
  go_wp2_with fail
  refine (intfns.held_any _ _ r0.length (1) _ Og.out.reads (by omega)).mono ?_
  rintro e w29 ⟨rfl, hb⟩
  have s29 : w28.heap.size ≤ w29.heap.size := hb.size
  have n29_0 : w.heap.size < w29.heap.size := by omega
  have n29_1 : w.heap.size + 1 < w29.heap.size := by omega
  have n29_2 : w.heap.size + 1 + 1 < w29.heap.size := by omega
  have n29_3 : w.heap.size + 1 + 1 + 1 < w29.heap.size := by omega
  have n29_4 : w6.heap.size < w29.heap.size := by omega
  have n29_5 : w8.heap.size < w29.heap.size := by omega
  have n29_6 : w10.heap.size < w29.heap.size := by omega
  have n29_7 : w12.heap.size < w29.heap.size := by omega
  replace x0_0 := cell_below hb x0_0 (by omega)
  replace x0_1 := cell_below hb x0_1 (by omega)
  replace x1_0 := cell_below hb x1_0 (by omega)
  replace x1_1 := cell_below hb x1_1 (by omega)
  replace x2_0 := cell_below hb x2_0 (by omega)
  replace x2_1 := cell_below hb x2_1 (by omega)
  replace x3_0 := cell_below hb x3_0 (by omega)
  replace x3_1 := cell_below hb x3_1 (by omega)
  replace p0_0 := cell_below hb p0_0 (by omega)
  replace p0_1 := cell_below hb p0_1 (by omega)
  replace p1_0 := cell_below hb p1_0 (by omega)
  replace p1_1 := cell_below hb p1_1 (by omega)
  replace p2_0 := cell_below hb p2_0 (by omega)
  replace p2_1 := cell_below hb p2_1 (by omega)
  replace p3_0 := cell_below hb p3_0 (by omega)
  replace p3_1 := cell_below hb p3_1 (by omega)
  have HB29 := Lib.hid (HB28.out.trans (hb.mono (by omega)))
  replace Ov := Lib.hid (Ov.out.below hb)
  replace Og := Lib.hid (Og.out.below hb)
  replace Oh := Lib.hid (Oh.out.below hb)
  clear hb
  go_wp2_with fail
  go_ret
  exact ⟨rfl, HB29.out⟩
end Go.Proofs.Ythohnnobahcdpaa.fnExactChoiceMistakesw
