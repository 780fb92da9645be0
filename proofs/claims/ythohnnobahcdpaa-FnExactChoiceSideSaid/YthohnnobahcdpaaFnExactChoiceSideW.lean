/- The walk of FnExactChoiceSide, from what the model's function and the program's return. -/
import Derived.Test.YthohnnobahcdpaaPlaneFns
import Derived.Test.YthohnnobahcdpaaIntFns
import Derived.Test.YthohnnobahcdpaaOwnG
import Derived.Deep.RegionHeld3
namespace Go.Proofs.Ythohnnobahcdpaa.fnExactChoiceSidew
open Go.RowKit own
set_option linter.unusedVariables false
set_option linter.unusedSimpArgs false

set_option maxHeartbeats 1000000 in
theorem exit_len3 (a0 : Option Addr) (zs0 : List Int) (c0 : Nat) (b0 : Int) (a1 : Option Addr) (zs1 : List Int) (c1 : Nat) (b1 : Int) (a2 : Option Addr) (zs2 : List Int) (c2 : Nat) (b2 : Int) (a3 : Option Addr) (zs3 : List Int) (c3 : Nat) (w : World) (hr0 : ints.Reads .i64 w a0 zs0) (hr1 : ints.Reads .i64 w a1 zs1) (hr2 : ints.Reads .i64 w a2 zs2) (hr3 : ints.Reads .i64 w a3 zs3) (hl0 : zs0.length ≤ 9223372036854775807) (hl1 : zs1.length ≤ 9223372036854775807) (hl2 : zs2.length ≤ 9223372036854775807) (hl3 : zs3.length ≤ 9223372036854775807)  (h3 : 1048576 < zs3.length) : Calls Try.prog 13 #[.agg #[.slice a0 zs0.length c0, .int .i64 b0], .agg #[.slice a1 zs1.length c1, .int .i64 b1], .agg #[.slice a2 zs2.length c2, .int .i64 b2], .slice a3 zs3.length c3] w fun e w' => e = .returned (.bool true) ∧ Below w.heap.size w w' := by
  have HR0 := Lib.hid hr0
  have HR1 := Lib.hid hr1
  have HR2 := Lib.hid hr2
  have HR3 := Lib.hid hr3
  clear hr0 hr1 hr2 hr3
  go_enter Try.func13, Try.ntmps13
  go_wp2_with fail
  go_ret
  exact ⟨rfl, by first | exact Below.refl _ _ | exact (Below.refl _ _).alloc (Nat.le_refl _) _ | exact ((Below.refl _ _).alloc (Nat.le_refl _) _).alloc (by simp) _ | exact (((Below.refl _ _).alloc (Nat.le_refl _) _).alloc (by simp) _).alloc (by simp; omega) _⟩

set_option maxHeartbeats 1000000 in
theorem exit_sz0 (a0 : Option Addr) (zs0 : List Int) (c0 : Nat) (b0 : Int) (a1 : Option Addr) (zs1 : List Int) (c1 : Nat) (b1 : Int) (a2 : Option Addr) (zs2 : List Int) (c2 : Nat) (b2 : Int) (a3 : Option Addr) (zs3 : List Int) (c3 : Nat) (w : World) (hr0 : ints.Reads .i64 w a0 zs0) (hr1 : ints.Reads .i64 w a1 zs1) (hr2 : ints.Reads .i64 w a2 zs2) (hr3 : ints.Reads .i64 w a3 zs3) (hl0 : zs0.length ≤ 9223372036854775807) (hl1 : zs1.length ≤ 9223372036854775807) (hl2 : zs2.length ≤ 9223372036854775807) (hl3 : zs3.length ≤ 9223372036854775807) (h3 : zs3.length ≤ 1048576) (hx : 1048576 < (zs0.length : Int)) : Calls Try.prog 13 #[.agg #[.slice a0 zs0.length c0, .int .i64 b0], .agg #[.slice a1 zs1.length c1, .int .i64 b1], .agg #[.slice a2 zs2.length c2, .int .i64 b2], .slice a3 zs3.length c3] w fun e w' => e = .returned (.bool true) ∧ Below w.heap.size w w' := by
  have HR0 := Lib.hid hr0
  have HR1 := Lib.hid hr1
  have HR2 := Lib.hid hr2
  have HR3 := Lib.hid hr3
  clear hr0 hr1 hr2 hr3
  go_enter Try.func13, Try.ntmps13
  go_wp2_with fail
  have x0_0 : (w.alloc (.cells #[.slice a0 zs0.length c0, .int .i64 b0] 24)).cell? ⟨w.heap.size, 0, none⟩ = some (.slice a0 zs0.length c0) := cell_new _ _ _ (by simp) rfl
  have x0_1 : (w.alloc (.cells #[.slice a0 zs0.length c0, .int .i64 b0] 24)).cell? ⟨w.heap.size, 1, none⟩ = some (.int .i64 b0) := cell_new _ _ _ (by simp) rfl
  have HB0 := Lib.hid (below_alloc w (.cells #[.slice a0 zs0.length c0, .int .i64 b0] 24))
  have s0_0 := size_alloc' w (.cells #[.slice a0 zs0.length c0, .int .i64 b0] 24)
  replace x0_0 := cell_old (.cells #[.slice a1 zs1.length c1, .int .i64 b1] 24) x0_0
  replace x0_1 := cell_old (.cells #[.slice a1 zs1.length c1, .int .i64 b1] 24) x0_1
  have x1_0 : ((w.alloc (.cells #[.slice a0 zs0.length c0, .int .i64 b0] 24)).alloc (.cells #[.slice a1 zs1.length c1, .int .i64 b1] 24)).cell? ⟨w.heap.size + 1, 0, none⟩ = some (.slice a1 zs1.length c1) := cell_new _ _ _ (by simp) rfl
  have x1_1 : ((w.alloc (.cells #[.slice a0 zs0.length c0, .int .i64 b0] 24)).alloc (.cells #[.slice a1 zs1.length c1, .int .i64 b1] 24)).cell? ⟨w.heap.size + 1, 1, none⟩ = some (.int .i64 b1) := cell_new _ _ _ (by simp) rfl
  replace HB0 := Lib.hid (HB0.out.alloc (by first | (simp; done) | (simp; omega)) (.cells #[.slice a1 zs1.length c1, .int .i64 b1] 24))
  replace x0_0 := cell_old (.cells #[.slice a2 zs2.length c2, .int .i64 b2] 24) x0_0
  replace x0_1 := cell_old (.cells #[.slice a2 zs2.length c2, .int .i64 b2] 24) x0_1
  replace x1_0 := cell_old (.cells #[.slice a2 zs2.length c2, .int .i64 b2] 24) x1_0
  replace x1_1 := cell_old (.cells #[.slice a2 zs2.length c2, .int .i64 b2] 24) x1_1
  have x2_0 : (((w.alloc (.cells #[.slice a0 zs0.length c0, .int .i64 b0] 24)).alloc (.cells #[.slice a1 zs1.length c1, .int .i64 b1] 24)).alloc (.cells #[.slice a2 zs2.length c2, .int .i64 b2] 24)).cell? ⟨w.heap.size + 1 + 1, 0, none⟩ = some (.slice a2 zs2.length c2) := cell_new _ _ _ (by simp) rfl
  have x2_1 : (((w.alloc (.cells #[.slice a0 zs0.length c0, .int .i64 b0] 24)).alloc (.cells #[.slice a1 zs1.length c1, .int .i64 b1] 24)).alloc (.cells #[.slice a2 zs2.length c2, .int .i64 b2] 24)).cell? ⟨w.heap.size + 1 + 1, 1, none⟩ = some (.int .i64 b2) := cell_new _ _ _ (by simp) rfl
  replace HB0 := Lib.hid (HB0.out.alloc (by first | (simp; done) | (simp; omega)) (.cells #[.slice a2 zs2.length c2, .int .i64 b2] 24))
  have s0 : w.heap.size + 3 ≤ (((w.alloc (.cells #[.slice a0 zs0.length c0, .int .i64 b0] 24)).alloc (.cells #[.slice a1 zs1.length c1, .int .i64 b1] 24)).alloc (.cells #[.slice a2 zs2.length c2, .int .i64 b2] 24)).heap.size := by simp
  clear s0_0
  generalize hw : (((w.alloc (.cells #[.slice a0 zs0.length c0, .int .i64 b0] 24)).alloc (.cells #[.slice a1 zs1.length c1, .int .i64 b1] 24)).alloc (.cells #[.slice a2 zs2.length c2, .int .i64 b2] 24)) = w0 at *
  clear hw
  refine (planefns.sz_no _ _ _ _ _ _ (by omega) (by omega) (by omega) (by omega)).mono ?_
  rintro e w1 ⟨rfl, hb⟩
  have s1 : w0.heap.size ≤ w1.heap.size := hb.size
  have n1_0 : w.heap.size < w1.heap.size := by omega
  have n1_1 : w.heap.size + 1 < w1.heap.size := by omega
  have n1_2 : w.heap.size + 1 + 1 < w1.heap.size := by omega
  replace x0_0 := cell_below hb x0_0 (by omega)
  replace x0_1 := cell_below hb x0_1 (by omega)
  replace x1_0 := cell_below hb x1_0 (by omega)
  replace x1_1 := cell_below hb x1_1 (by omega)
  replace x2_0 := cell_below hb x2_0 (by omega)
  replace x2_1 := cell_below hb x2_1 (by omega)
  have HB1 := Lib.hid (HB0.out.trans (hb.mono (by omega)))
  clear hb
  go_wp2_with fail
  go_ret
  exact ⟨rfl, HB1.out⟩

set_option maxHeartbeats 1000000 in
theorem exit_sz1 (a0 : Option Addr) (zs0 : List Int) (c0 : Nat) (b0 : Int) (a1 : Option Addr) (zs1 : List Int) (c1 : Nat) (b1 : Int) (a2 : Option Addr) (zs2 : List Int) (c2 : Nat) (b2 : Int) (a3 : Option Addr) (zs3 : List Int) (c3 : Nat) (w : World) (hr0 : ints.Reads .i64 w a0 zs0) (hr1 : ints.Reads .i64 w a1 zs1) (hr2 : ints.Reads .i64 w a2 zs2) (hr3 : ints.Reads .i64 w a3 zs3) (hl0 : zs0.length ≤ 9223372036854775807) (hl1 : zs1.length ≤ 9223372036854775807) (hl2 : zs2.length ≤ 9223372036854775807) (hl3 : zs3.length ≤ 9223372036854775807) (h3 : zs3.length ≤ 1048576) (hb : (zs0.length : Int) ≤ 1048576) (hx : 1048576 < (zs0.length : Int) + (zs1.length : Int)) : Calls Try.prog 13 #[.agg #[.slice a0 zs0.length c0, .int .i64 b0], .agg #[.slice a1 zs1.length c1, .int .i64 b1], .agg #[.slice a2 zs2.length c2, .int .i64 b2], .slice a3 zs3.length c3] w fun e w' => e = .returned (.bool true) ∧ Below w.heap.size w w' := by
  have HR0 := Lib.hid hr0
  have HR1 := Lib.hid hr1
  have HR2 := Lib.hid hr2
  have HR3 := Lib.hid hr3
  clear hr0 hr1 hr2 hr3
  go_enter Try.func13, Try.ntmps13
  go_wp2_with fail
  have x0_0 : (w.alloc (.cells #[.slice a0 zs0.length c0, .int .i64 b0] 24)).cell? ⟨w.heap.size, 0, none⟩ = some (.slice a0 zs0.length c0) := cell_new _ _ _ (by simp) rfl
  have x0_1 : (w.alloc (.cells #[.slice a0 zs0.length c0, .int .i64 b0] 24)).cell? ⟨w.heap.size, 1, none⟩ = some (.int .i64 b0) := cell_new _ _ _ (by simp) rfl
  have HB0 := Lib.hid (below_alloc w (.cells #[.slice a0 zs0.length c0, .int .i64 b0] 24))
  have s0_0 := size_alloc' w (.cells #[.slice a0 zs0.length c0, .int .i64 b0] 24)
  replace x0_0 := cell_old (.cells #[.slice a1 zs1.length c1, .int .i64 b1] 24) x0_0
  replace x0_1 := cell_old (.cells #[.slice a1 zs1.length c1, .int .i64 b1] 24) x0_1
  have x1_0 : ((w.alloc (.cells #[.slice a0 zs0.length c0, .int .i64 b0] 24)).alloc (.cells #[.slice a1 zs1.length c1, .int .i64 b1] 24)).cell? ⟨w.heap.size + 1, 0, none⟩ = some (.slice a1 zs1.length c1) := cell_new _ _ _ (by simp) rfl
  have x1_1 : ((w.alloc (.cells #[.slice a0 zs0.length c0, .int .i64 b0] 24)).alloc (.cells #[.slice a1 zs1.length c1, .int .i64 b1] 24)).cell? ⟨w.heap.size + 1, 1, none⟩ = some (.int .i64 b1) := cell_new _ _ _ (by simp) rfl
  replace HB0 := Lib.hid (HB0.out.alloc (by first | (simp; done) | (simp; omega)) (.cells #[.slice a1 zs1.length c1, .int .i64 b1] 24))
  replace x0_0 := cell_old (.cells #[.slice a2 zs2.length c2, .int .i64 b2] 24) x0_0
  replace x0_1 := cell_old (.cells #[.slice a2 zs2.length c2, .int .i64 b2] 24) x0_1
  replace x1_0 := cell_old (.cells #[.slice a2 zs2.length c2, .int .i64 b2] 24) x1_0
  replace x1_1 := cell_old (.cells #[.slice a2 zs2.length c2, .int .i64 b2] 24) x1_1
  have x2_0 : (((w.alloc (.cells #[.slice a0 zs0.length c0, .int .i64 b0] 24)).alloc (.cells #[.slice a1 zs1.length c1, .int .i64 b1] 24)).alloc (.cells #[.slice a2 zs2.length c2, .int .i64 b2] 24)).cell? ⟨w.heap.size + 1 + 1, 0, none⟩ = some (.slice a2 zs2.length c2) := cell_new _ _ _ (by simp) rfl
  have x2_1 : (((w.alloc (.cells #[.slice a0 zs0.length c0, .int .i64 b0] 24)).alloc (.cells #[.slice a1 zs1.length c1, .int .i64 b1] 24)).alloc (.cells #[.slice a2 zs2.length c2, .int .i64 b2] 24)).cell? ⟨w.heap.size + 1 + 1, 1, none⟩ = some (.int .i64 b2) := cell_new _ _ _ (by simp) rfl
  replace HB0 := Lib.hid (HB0.out.alloc (by first | (simp; done) | (simp; omega)) (.cells #[.slice a2 zs2.length c2, .int .i64 b2] 24))
  have s0 : w.heap.size + 3 ≤ (((w.alloc (.cells #[.slice a0 zs0.length c0, .int .i64 b0] 24)).alloc (.cells #[.slice a1 zs1.length c1, .int .i64 b1] 24)).alloc (.cells #[.slice a2 zs2.length c2, .int .i64 b2] 24)).heap.size := by simp
  clear s0_0
  generalize hw : (((w.alloc (.cells #[.slice a0 zs0.length c0, .int .i64 b0] 24)).alloc (.cells #[.slice a1 zs1.length c1, .int .i64 b1] 24)).alloc (.cells #[.slice a2 zs2.length c2, .int .i64 b2] 24)) = w0 at *
  clear hw
  refine (planefns.sz_yes _ _ _ _ _ _ (by omega) (by omega)).mono ?_
  rintro e w1 ⟨rfl, hb⟩
  have s1 : w0.heap.size ≤ w1.heap.size := hb.size
  have n1_0 : w.heap.size < w1.heap.size := by omega
  have n1_1 : w.heap.size + 1 < w1.heap.size := by omega
  have n1_2 : w.heap.size + 1 + 1 < w1.heap.size := by omega
  replace x0_0 := cell_below hb x0_0 (by omega)
  replace x0_1 := cell_below hb x0_1 (by omega)
  replace x1_0 := cell_below hb x1_0 (by omega)
  replace x1_1 := cell_below hb x1_1 (by omega)
  replace x2_0 := cell_below hb x2_0 (by omega)
  replace x2_1 := cell_below hb x2_1 (by omega)
  have HB1 := Lib.hid (HB0.out.trans (hb.mono (by omega)))
  clear hb
  go_wp2_with fail
  refine (planefns.sz_no _ _ _ _ _ _ (by omega) (by omega) (by omega) (by omega)).mono ?_
  rintro e w2 ⟨rfl, hb⟩
  have s2 : w1.heap.size ≤ w2.heap.size := hb.size
  have n2_0 : w.heap.size < w2.heap.size := by omega
  have n2_1 : w.heap.size + 1 < w2.heap.size := by omega
  have n2_2 : w.heap.size + 1 + 1 < w2.heap.size := by omega
  replace x0_0 := cell_below hb x0_0 (by omega)
  replace x0_1 := cell_below hb x0_1 (by omega)
  replace x1_0 := cell_below hb x1_0 (by omega)
  replace x1_1 := cell_below hb x1_1 (by omega)
  replace x2_0 := cell_below hb x2_0 (by omega)
  replace x2_1 := cell_below hb x2_1 (by omega)
  have HB2 := Lib.hid (HB1.out.trans (hb.mono (by omega)))
  clear hb
  go_wp2_with fail
  go_ret
  exact ⟨rfl, HB2.out⟩

set_option maxHeartbeats 1000000 in
theorem exit_sz2 (a0 : Option Addr) (zs0 : List Int) (c0 : Nat) (b0 : Int) (a1 : Option Addr) (zs1 : List Int) (c1 : Nat) (b1 : Int) (a2 : Option Addr) (zs2 : List Int) (c2 : Nat) (b2 : Int) (a3 : Option Addr) (zs3 : List Int) (c3 : Nat) (w : World) (hr0 : ints.Reads .i64 w a0 zs0) (hr1 : ints.Reads .i64 w a1 zs1) (hr2 : ints.Reads .i64 w a2 zs2) (hr3 : ints.Reads .i64 w a3 zs3) (hl0 : zs0.length ≤ 9223372036854775807) (hl1 : zs1.length ≤ 9223372036854775807) (hl2 : zs2.length ≤ 9223372036854775807) (hl3 : zs3.length ≤ 9223372036854775807) (h3 : zs3.length ≤ 1048576) (hb : (zs0.length : Int) + (zs1.length : Int) ≤ 1048576) (hx : 1048576 < (zs0.length : Int) + (zs1.length : Int) + (zs2.length : Int)) : Calls Try.prog 13 #[.agg #[.slice a0 zs0.length c0, .int .i64 b0], .agg #[.slice a1 zs1.length c1, .int .i64 b1], .agg #[.slice a2 zs2.length c2, .int .i64 b2], .slice a3 zs3.length c3] w fun e w' => e = .returned (.bool true) ∧ Below w.heap.size w w' := by
  have HR0 := Lib.hid hr0
  have HR1 := Lib.hid hr1
  have HR2 := Lib.hid hr2
  have HR3 := Lib.hid hr3
  clear hr0 hr1 hr2 hr3
  go_enter Try.func13, Try.ntmps13
  go_wp2_with fail
  have x0_0 : (w.alloc (.cells #[.slice a0 zs0.length c0, .int .i64 b0] 24)).cell? ⟨w.heap.size, 0, none⟩ = some (.slice a0 zs0.length c0) := cell_new _ _ _ (by simp) rfl
  have x0_1 : (w.alloc (.cells #[.slice a0 zs0.length c0, .int .i64 b0] 24)).cell? ⟨w.heap.size, 1, none⟩ = some (.int .i64 b0) := cell_new _ _ _ (by simp) rfl
  have HB0 := Lib.hid (below_alloc w (.cells #[.slice a0 zs0.length c0, .int .i64 b0] 24))
  have s0_0 := size_alloc' w (.cells #[.slice a0 zs0.length c0, .int .i64 b0] 24)
  replace x0_0 := cell_old (.cells #[.slice a1 zs1.length c1, .int .i64 b1] 24) x0_0
  replace x0_1 := cell_old (.cells #[.slice a1 zs1.length c1, .int .i64 b1] 24) x0_1
  have x1_0 : ((w.alloc (.cells #[.slice a0 zs0.length c0, .int .i64 b0] 24)).alloc (.cells #[.slice a1 zs1.length c1, .int .i64 b1] 24)).cell? ⟨w.heap.size + 1, 0, none⟩ = some (.slice a1 zs1.length c1) := cell_new _ _ _ (by simp) rfl
  have x1_1 : ((w.alloc (.cells #[.slice a0 zs0.length c0, .int .i64 b0] 24)).alloc (.cells #[.slice a1 zs1.length c1, .int .i64 b1] 24)).cell? ⟨w.heap.size + 1, 1, none⟩ = some (.int .i64 b1) := cell_new _ _ _ (by simp) rfl
  replace HB0 := Lib.hid (HB0.out.alloc (by first | (simp; done) | (simp; omega)) (.cells #[.slice a1 zs1.length c1, .int .i64 b1] 24))
  replace x0_0 := cell_old (.cells #[.slice a2 zs2.length c2, .int .i64 b2] 24) x0_0
  replace x0_1 := cell_old (.cells #[.slice a2 zs2.length c2, .int .i64 b2] 24) x0_1
  replace x1_0 := cell_old (.cells #[.slice a2 zs2.length c2, .int .i64 b2] 24) x1_0
  replace x1_1 := cell_old (.cells #[.slice a2 zs2.length c2, .int .i64 b2] 24) x1_1
  have x2_0 : (((w.alloc (.cells #[.slice a0 zs0.length c0, .int .i64 b0] 24)).alloc (.cells #[.slice a1 zs1.length c1, .int .i64 b1] 24)).alloc (.cells #[.slice a2 zs2.length c2, .int .i64 b2] 24)).cell? ⟨w.heap.size + 1 + 1, 0, none⟩ = some (.slice a2 zs2.length c2) := cell_new _ _ _ (by simp) rfl
  have x2_1 : (((w.alloc (.cells #[.slice a0 zs0.length c0, .int .i64 b0] 24)).alloc (.cells #[.slice a1 zs1.length c1, .int .i64 b1] 24)).alloc (.cells #[.slice a2 zs2.length c2, .int .i64 b2] 24)).cell? ⟨w.heap.size + 1 + 1, 1, none⟩ = some (.int .i64 b2) := cell_new _ _ _ (by simp) rfl
  replace HB0 := Lib.hid (HB0.out.alloc (by first | (simp; done) | (simp; omega)) (.cells #[.slice a2 zs2.length c2, .int .i64 b2] 24))
  have s0 : w.heap.size + 3 ≤ (((w.alloc (.cells #[.slice a0 zs0.length c0, .int .i64 b0] 24)).alloc (.cells #[.slice a1 zs1.length c1, .int .i64 b1] 24)).alloc (.cells #[.slice a2 zs2.length c2, .int .i64 b2] 24)).heap.size := by simp
  clear s0_0
  generalize hw : (((w.alloc (.cells #[.slice a0 zs0.length c0, .int .i64 b0] 24)).alloc (.cells #[.slice a1 zs1.length c1, .int .i64 b1] 24)).alloc (.cells #[.slice a2 zs2.length c2, .int .i64 b2] 24)) = w0 at *
  clear hw
  refine (planefns.sz_yes _ _ _ _ _ _ (by omega) (by omega)).mono ?_
  rintro e w1 ⟨rfl, hb⟩
  have s1 : w0.heap.size ≤ w1.heap.size := hb.size
  have n1_0 : w.heap.size < w1.heap.size := by omega
  have n1_1 : w.heap.size + 1 < w1.heap.size := by omega
  have n1_2 : w.heap.size + 1 + 1 < w1.heap.size := by omega
  replace x0_0 := cell_below hb x0_0 (by omega)
  replace x0_1 := cell_below hb x0_1 (by omega)
  replace x1_0 := cell_below hb x1_0 (by omega)
  replace x1_1 := cell_below hb x1_1 (by omega)
  replace x2_0 := cell_below hb x2_0 (by omega)
  replace x2_1 := cell_below hb x2_1 (by omega)
  have HB1 := Lib.hid (HB0.out.trans (hb.mono (by omega)))
  clear hb
  go_wp2_with fail
  refine (planefns.sz_yes _ _ _ _ _ _ (by omega) (by omega)).mono ?_
  rintro e w2 ⟨rfl, hb⟩
  have s2 : w1.heap.size ≤ w2.heap.size := hb.size
  have n2_0 : w.heap.size < w2.heap.size := by omega
  have n2_1 : w.heap.size + 1 < w2.heap.size := by omega
  have n2_2 : w.heap.size + 1 + 1 < w2.heap.size := by omega
  replace x0_0 := cell_below hb x0_0 (by omega)
  replace x0_1 := cell_below hb x0_1 (by omega)
  replace x1_0 := cell_below hb x1_0 (by omega)
  replace x1_1 := cell_below hb x1_1 (by omega)
  replace x2_0 := cell_below hb x2_0 (by omega)
  replace x2_1 := cell_below hb x2_1 (by omega)
  have HB2 := Lib.hid (HB1.out.trans (hb.mono (by omega)))
  clear hb
  go_wp2_with fail
  refine (planefns.sz_no _ _ _ _ _ _ (by omega) (by omega) (by omega) (by omega)).mono ?_
  rintro e w3 ⟨rfl, hb⟩
  have s3 : w2.heap.size ≤ w3.heap.size := hb.size
  have n3_0 : w.heap.size < w3.heap.size := by omega
  have n3_1 : w.heap.size + 1 < w3.heap.size := by omega
  have n3_2 : w.heap.size + 1 + 1 < w3.heap.size := by omega
  replace x0_0 := cell_below hb x0_0 (by omega)
  replace x0_1 := cell_below hb x0_1 (by omega)
  replace x1_0 := cell_below hb x1_0 (by omega)
  replace x1_1 := cell_below hb x1_1 (by omega)
  replace x2_0 := cell_below hb x2_0 (by omega)
  replace x2_1 := cell_below hb x2_1 (by omega)
  have HB3 := Lib.hid (HB2.out.trans (hb.mono (by omega)))
  clear hb
  go_wp2_with fail
  go_ret
  exact ⟨rfl, HB3.out⟩

theorem law_big (a0 : Option Addr) (zs0 : List Int) (c0 : Nat) (b0 : Int) (a1 : Option Addr) (zs1 : List Int) (c1 : Nat) (b1 : Int) (a2 : Option Addr) (zs2 : List Int) (c2 : Nat) (b2 : Int) (a3 : Option Addr) (zs3 : List Int) (c3 : Nat) (w : World) (hr0 : ints.Reads .i64 w a0 zs0) (hr1 : ints.Reads .i64 w a1 zs1) (hr2 : ints.Reads .i64 w a2 zs2) (hr3 : ints.Reads .i64 w a3 zs3) (hl0 : zs0.length ≤ 9223372036854775807) (hl1 : zs1.length ≤ 9223372036854775807) (hl2 : zs2.length ≤ 9223372036854775807) (hl3 : zs3.length ≤ 9223372036854775807) (hx : ¬ (zs3.length ≤ 1048576 ∧ (zs0.length : Int) + (zs1.length : Int) + (zs2.length : Int) ≤ 1048576)) : Calls Try.prog 13 #[.agg #[.slice a0 zs0.length c0, .int .i64 b0], .agg #[.slice a1 zs1.length c1, .int .i64 b1], .agg #[.slice a2 zs2.length c2, .int .i64 b2], .slice a3 zs3.length c3] w fun e w' => e = .returned (.bool true) ∧ Below w.heap.size w w' := by
  by_cases g3 : 1048576 < zs3.length
  · exact exit_len3 a0 zs0 c0 b0 a1 zs1 c1 b1 a2 zs2 c2 b2 a3 zs3 c3 w hr0 hr1 hr2 hr3 hl0 hl1 hl2 hl3  g3
  by_cases k0 : 1048576 < (zs0.length : Int)
  · exact exit_sz0 a0 zs0 c0 b0 a1 zs1 c1 b1 a2 zs2 c2 b2 a3 zs3 c3 w hr0 hr1 hr2 hr3 hl0 hl1 hl2 hl3 (by omega)  k0
  by_cases k1 : 1048576 < (zs0.length : Int) + (zs1.length : Int)
  · exact exit_sz1 a0 zs0 c0 b0 a1 zs1 c1 b1 a2 zs2 c2 b2 a3 zs3 c3 w hr0 hr1 hr2 hr3 hl0 hl1 hl2 hl3 (by omega) (by omega) k1
  by_cases k2 : 1048576 < (zs0.length : Int) + (zs1.length : Int) + (zs2.length : Int)
  · exact exit_sz2 a0 zs0 c0 b0 a1 zs1 c1 b1 a2 zs2 c2 b2 a3 zs3 c3 w hr0 hr1 hr2 hr3 hl0 hl1 hl2 hl3 (by omega) (by omega) k2
  · exact absurd (by refine ⟨?_, ?_⟩ <;> omega) hx

set_option maxRecDepth 100000 in
set_option maxHeartbeats 4000000 in
theorem law_small (a0 : Option Addr) (zs0 : List Int) (c0 : Nat) (b0 : Int) (a1 : Option Addr) (zs1 : List Int) (c1 : Nat) (b1 : Int) (a2 : Option Addr) (zs2 : List Int) (c2 : Nat) (b2 : Int) (a3 : Option Addr) (zs3 : List Int) (c3 : Nat) (r0 : Int) (ok : Bool) (w : World) (hr0 : ints.Reads .i64 w a0 zs0) (hr1 : ints.Reads .i64 w a1 zs1) (hr2 : ints.Reads .i64 w a2 zs2) (hr3 : ints.Reads .i64 w a3 zs3) (h0 : zs3.length ≤ 1048576) (h1 : (zs0.length : Int) + (zs1.length : Int) + (zs2.length : Int) ≤ 1048576) 
    (HSpec : Hid (∀ (a0 : Option Addr) (c0 : Nat) (a1 : Option Addr) (c1 : Nat) (a2 : Option Addr) (c2 : Nat) (a3 : Option Addr) (c3 : Nat) (w : World), ints.Reads .i64 w a0 zs0 → zs0.length ≤ c0 → ints.Reads .i64 w a1 zs1 → zs1.length ≤ c1 → ints.Reads .i64 w a2 zs2 → zs2.length ≤ c2 → ints.Reads .i64 w a3 zs3 → zs3.length ≤ c3 → Calls Try.prog 55 #[.agg #[.slice a0 zs0.length c0, .int .i64 b0], .agg #[.slice a1 zs1.length c1, .int .i64 b1], .agg #[.slice a2 zs2.length c2, .int .i64 b2], .slice a3 zs3.length c3] w (RetNB r0 ok w)))
    (HImpl : Hid (∀ (a0 : Option Addr) (c0 : Nat) (a1 : Option Addr) (c1 : Nat) (a2 : Option Addr) (c2 : Nat) (a3 : Option Addr) (c3 : Nat) (w : World), ints.Reads .i64 w a0 zs0 → zs0.length ≤ c0 → ints.Reads .i64 w a1 zs1 → zs1.length ≤ c1 → ints.Reads .i64 w a2 zs2 → zs2.length ≤ c2 → ints.Reads .i64 w a3 zs3 → zs3.length ≤ c3 → Calls Try.prog 56 #[.agg #[.slice a0 zs0.length c0, .int .i64 b0], .agg #[.slice a1 zs1.length c1, .int .i64 b1], .agg #[.slice a2 zs2.length c2, .int .i64 b2], .slice a3 zs3.length c3] w (RetNB r0 ok w))) :
    Calls Try.prog 13 #[.agg #[.slice a0 zs0.length c0, .int .i64 b0], .agg #[.slice a1 zs1.length c1, .int .i64 b1], .agg #[.slice a2 zs2.length c2, .int .i64 b2], .slice a3 zs3.length c3] w fun e w' => e = .returned (.bool true) ∧ Below w.heap.size w w' := by
  have HR0 := Lib.hid hr0
  have HR1 := Lib.hid hr1
  have HR2 := Lib.hid hr2
  have HR3 := Lib.hid hr3
  clear hr0 hr1 hr2 hr3
  go_enter Try.func13, Try.ntmps13
  go_wp2_with fail
  have x0_0 : (w.alloc (.cells #[.slice a0 zs0.length c0, .int .i64 b0] 24)).cell? ⟨w.heap.size, 0, none⟩ = some (.slice a0 zs0.length c0) := cell_new _ _ _ (by simp) rfl
  have x0_1 : (w.alloc (.cells #[.slice a0 zs0.length c0, .int .i64 b0] 24)).cell? ⟨w.heap.size, 1, none⟩ = some (.int .i64 b0) := cell_new _ _ _ (by simp) rfl
  have HB0 := Lib.hid (below_alloc w (.cells #[.slice a0 zs0.length c0, .int .i64 b0] 24))
  have s0_0 := size_alloc' w (.cells #[.slice a0 zs0.length c0, .int .i64 b0] 24)
  replace x0_0 := cell_old (.cells #[.slice a1 zs1.length c1, .int .i64 b1] 24) x0_0
  replace x0_1 := cell_old (.cells #[.slice a1 zs1.length c1, .int .i64 b1] 24) x0_1
  have x1_0 : ((w.alloc (.cells #[.slice a0 zs0.length c0, .int .i64 b0] 24)).alloc (.cells #[.slice a1 zs1.length c1, .int .i64 b1] 24)).cell? ⟨w.heap.size + 1, 0, none⟩ = some (.slice a1 zs1.length c1) := cell_new _ _ _ (by simp) rfl
  have x1_1 : ((w.alloc (.cells #[.slice a0 zs0.length c0, .int .i64 b0] 24)).alloc (.cells #[.slice a1 zs1.length c1, .int .i64 b1] 24)).cell? ⟨w.heap.size + 1, 1, none⟩ = some (.int .i64 b1) := cell_new _ _ _ (by simp) rfl
  replace HB0 := Lib.hid (HB0.out.alloc (by first | (simp; done) | (simp; omega)) (.cells #[.slice a1 zs1.length c1, .int .i64 b1] 24))
  replace x0_0 := cell_old (.cells #[.slice a2 zs2.length c2, .int .i64 b2] 24) x0_0
  replace x0_1 := cell_old (.cells #[.slice a2 zs2.length c2, .int .i64 b2] 24) x0_1
  replace x1_0 := cell_old (.cells #[.slice a2 zs2.length c2, .int .i64 b2] 24) x1_0
  replace x1_1 := cell_old (.cells #[.slice a2 zs2.length c2, .int .i64 b2] 24) x1_1
  have x2_0 : (((w.alloc (.cells #[.slice a0 zs0.length c0, .int .i64 b0] 24)).alloc (.cells #[.slice a1 zs1.length c1, .int .i64 b1] 24)).alloc (.cells #[.slice a2 zs2.length c2, .int .i64 b2] 24)).cell? ⟨w.heap.size + 1 + 1, 0, none⟩ = some (.slice a2 zs2.length c2) := cell_new _ _ _ (by simp) rfl
  have x2_1 : (((w.alloc (.cells #[.slice a0 zs0.length c0, .int .i64 b0] 24)).alloc (.cells #[.slice a1 zs1.length c1, .int .i64 b1] 24)).alloc (.cells #[.slice a2 zs2.length c2, .int .i64 b2] 24)).cell? ⟨w.heap.size + 1 + 1, 1, none⟩ = some (.int .i64 b2) := cell_new _ _ _ (by simp) rfl
  replace HB0 := Lib.hid (HB0.out.alloc (by first | (simp; done) | (simp; omega)) (.cells #[.slice a2 zs2.length c2, .int .i64 b2] 24))
  have s0 : w.heap.size + 3 ≤ (((w.alloc (.cells #[.slice a0 zs0.length c0, .int .i64 b0] 24)).alloc (.cells #[.slice a1 zs1.length c1, .int .i64 b1] 24)).alloc (.cells #[.slice a2 zs2.length c2, .int .i64 b2] 24)).heap.size := by simp
  clear s0_0
  generalize hw : (((w.alloc (.cells #[.slice a0 zs0.length c0, .int .i64 b0] 24)).alloc (.cells #[.slice a1 zs1.length c1, .int .i64 b1] 24)).alloc (.cells #[.slice a2 zs2.length c2, .int .i64 b2] 24)) = w0 at *
  clear hw
  refine (planefns.sz_yes _ _ _ _ _ _ (by omega) (by omega)).mono ?_
  rintro e w1 ⟨rfl, hb⟩
  have s1 : w0.heap.size ≤ w1.heap.size := hb.size
  have n1_0 : w.heap.size < w1.heap.size := by omega
  have n1_1 : w.heap.size + 1 < w1.heap.size := by omega
  have n1_2 : w.heap.size + 1 + 1 < w1.heap.size := by omega
  replace x0_0 := cell_below hb x0_0 (by omega)
  replace x0_1 := cell_below hb x0_1 (by omega)
  replace x1_0 := cell_below hb x1_0 (by omega)
  replace x1_1 := cell_below hb x1_1 (by omega)
  replace x2_0 := cell_below hb x2_0 (by omega)
  replace x2_1 := cell_below hb x2_1 (by omega)
  have HB1 := Lib.hid (HB0.out.trans (hb.mono (by omega)))
  clear hb
  go_wp2_with fail
  refine (planefns.sz_yes _ _ _ _ _ _ (by omega) (by omega)).mono ?_
  rintro e w2 ⟨rfl, hb⟩
  have s2 : w1.heap.size ≤ w2.heap.size := hb.size
  have n2_0 : w.heap.size < w2.heap.size := by omega
  have n2_1 : w.heap.size + 1 < w2.heap.size := by omega
  have n2_2 : w.heap.size + 1 + 1 < w2.heap.size := by omega
  replace x0_0 := cell_below hb x0_0 (by omega)
  replace x0_1 := cell_below hb x0_1 (by omega)
  replace x1_0 := cell_below hb x1_0 (by omega)
  replace x1_1 := cell_below hb x1_1 (by omega)
  replace x2_0 := cell_below hb x2_0 (by omega)
  replace x2_1 := cell_below hb x2_1 (by omega)
  have HB2 := Lib.hid (HB1.out.trans (hb.mono (by omega)))
  clear hb
  go_wp2_with fail
  refine (planefns.sz_yes _ _ _ _ _ _ (by omega) (by omega)).mono ?_
  rintro e w3 ⟨rfl, hb⟩
  have s3 : w2.heap.size ≤ w3.heap.size := hb.size
  have n3_0 : w.heap.size < w3.heap.size := by omega
  have n3_1 : w.heap.size + 1 < w3.heap.size := by omega
  have n3_2 : w.heap.size + 1 + 1 < w3.heap.size := by omega
  replace x0_0 := cell_below hb x0_0 (by omega)
  replace x0_1 := cell_below hb x0_1 (by omega)
  replace x1_0 := cell_below hb x1_0 (by omega)
  replace x1_1 := cell_below hb x1_1 (by omega)
  replace x2_0 := cell_below hb x2_0 (by omega)
  replace x2_1 := cell_below hb x2_1 (by omega)
  have HB3 := Lib.hid (HB2.out.trans (hb.mono (by omega)))
  clear hb
  go_wp2_with fail
  have HT1 := Lib.hid (show ∀ (wa : World) , (wa.cell? ⟨w.heap.size, 0, none⟩ = some (.slice a0 zs0.length c0) ∧ wa.cell? ⟨w.heap.size, 1, none⟩ = some (.int .i64 b0) ∧ wa.cell? ⟨w.heap.size + 1, 0, none⟩ = some (.slice a1 zs1.length c1) ∧ wa.cell? ⟨w.heap.size + 1, 1, none⟩ = some (.int .i64 b1) ∧ wa.cell? ⟨w.heap.size + 1 + 1, 0, none⟩ = some (.slice a2 zs2.length c2) ∧ wa.cell? ⟨w.heap.size + 1 + 1, 1, none⟩ = some (.int .i64 b2) ∧ Below w3.heap.size w3 wa) → Calls Try.prog 18 #[.agg #[.slice a0 zs0.length c0, .int .i64 b0]] wa fun e w' => ∃ p0 q0, e = .returned (.agg #[.slice p0 zs0.length q0, .int .i64 b0]) ∧ ints.Reads .i64 w' p0 zs0 ∧ zs0.length ≤ q0 ∧ w'.cell? ⟨w.heap.size, 0, none⟩ = some (.slice a0 zs0.length c0) ∧ w'.cell? ⟨w.heap.size, 1, none⟩ = some (.int .i64 b0) ∧ w'.cell? ⟨w.heap.size + 1, 0, none⟩ = some (.slice a1 zs1.length c1) ∧ w'.cell? ⟨w.heap.size + 1, 1, none⟩ = some (.int .i64 b1) ∧ w'.cell? ⟨w.heap.size + 1 + 1, 0, none⟩ = some (.slice a2 zs2.length c2) ∧ w'.cell? ⟨w.heap.size + 1 + 1, 1, none⟩ = some (.int .i64 b2) ∧ Below w3.heap.size w3 w' from fun wa  hS  => by
    have hz := hS.2.2.2.2.2.2.size
    refine (planefns.to_any a0 zs0 c0 b0 _ (HR0.out.below (HB3.out.trans (hS.2.2.2.2.2.2.mono (by omega)))) (by omega)).mono ?_
    rintro e w' ⟨v, rfl, ho, hb⟩
    obtain ⟨p0, q0, rfl, _, hcap9, _⟩ := ho.slice
    exact ⟨p0, q0, rfl, ho.reads, hcap9, cell_below hb hS.1 (by omega), cell_below hb hS.2.1 (by omega), cell_below hb hS.2.2.1 (by omega), cell_below hb hS.2.2.2.1 (by omega), cell_below hb hS.2.2.2.2.1 (by omega), cell_below hb hS.2.2.2.2.2.1 (by omega), hS.2.2.2.2.2.2.trans (hb.mono (by omega))⟩)
  have HT2 := Lib.hid (show ∀ (wa : World) (p0 : Option Addr) (q0 : Nat), (wa.cell? ⟨w.heap.size, 0, none⟩ = some (.slice a0 zs0.length c0) ∧ wa.cell? ⟨w.heap.size, 1, none⟩ = some (.int .i64 b0) ∧ wa.cell? ⟨w.heap.size + 1, 0, none⟩ = some (.slice a1 zs1.length c1) ∧ wa.cell? ⟨w.heap.size + 1, 1, none⟩ = some (.int .i64 b1) ∧ wa.cell? ⟨w.heap.size + 1 + 1, 0, none⟩ = some (.slice a2 zs2.length c2) ∧ wa.cell? ⟨w.heap.size + 1 + 1, 1, none⟩ = some (.int .i64 b2) ∧ Below w3.heap.size w3 wa) → ints.Reads .i64 wa p0 zs0 → zs0.length ≤ q0 → Calls Try.prog 18 #[.agg #[.slice a1 zs1.length c1, .int .i64 b1]] wa fun e w' => ∃ p1 q1, e = .returned (.agg #[.slice p1 zs1.length q1, .int .i64 b1]) ∧ ints.Reads .i64 w' p1 zs1 ∧ zs1.length ≤ q1 ∧ ints.Reads .i64 w' p0 zs0 ∧ zs0.length ≤ q0 ∧ w'.cell? ⟨w.heap.size, 0, none⟩ = some (.slice a0 zs0.length c0) ∧ w'.cell? ⟨w.heap.size, 1, none⟩ = some (.int .i64 b0) ∧ w'.cell? ⟨w.heap.size + 1, 0, none⟩ = some (.slice a1 zs1.length c1) ∧ w'.cell? ⟨w.heap.size + 1, 1, none⟩ = some (.int .i64 b1) ∧ w'.cell? ⟨w.heap.size + 1 + 1, 0, none⟩ = some (.slice a2 zs2.length c2) ∧ w'.cell? ⟨w.heap.size + 1 + 1, 1, none⟩ = some (.int .i64 b2) ∧ Below w3.heap.size w3 w' from fun wa p0 q0 hS k0 k1 => by
    have hz := hS.2.2.2.2.2.2.size
    refine (planefns.to_any a1 zs1 c1 b1 _ (HR1.out.below (HB3.out.trans (hS.2.2.2.2.2.2.mono (by omega)))) (by omega)).mono ?_
    rintro e w' ⟨v, rfl, ho, hb⟩
    obtain ⟨p1, q1, rfl, _, hcap9, _⟩ := ho.slice
    exact ⟨p1, q1, rfl, ho.reads, hcap9, k0.below hb, k1, cell_below hb hS.1 (by omega), cell_below hb hS.2.1 (by omega), cell_below hb hS.2.2.1 (by omega), cell_below hb hS.2.2.2.1 (by omega), cell_below hb hS.2.2.2.2.1 (by omega), cell_below hb hS.2.2.2.2.2.1 (by omega), hS.2.2.2.2.2.2.trans (hb.mono (by omega))⟩)
  have HT3 := Lib.hid (show ∀ (wa : World) (p0 : Option Addr) (q0 : Nat) (p1 : Option Addr) (q1 : Nat), (wa.cell? ⟨w.heap.size, 0, none⟩ = some (.slice a0 zs0.length c0) ∧ wa.cell? ⟨w.heap.size, 1, none⟩ = some (.int .i64 b0) ∧ wa.cell? ⟨w.heap.size + 1, 0, none⟩ = some (.slice a1 zs1.length c1) ∧ wa.cell? ⟨w.heap.size + 1, 1, none⟩ = some (.int .i64 b1) ∧ wa.cell? ⟨w.heap.size + 1 + 1, 0, none⟩ = some (.slice a2 zs2.length c2) ∧ wa.cell? ⟨w.heap.size + 1 + 1, 1, none⟩ = some (.int .i64 b2) ∧ Below w3.heap.size w3 wa) → ints.Reads .i64 wa p1 zs1 → zs1.length ≤ q1 → ints.Reads .i64 wa p0 zs0 → zs0.length ≤ q0 → Calls Try.prog 18 #[.agg #[.slice a2 zs2.length c2, .int .i64 b2]] wa fun e w' => ∃ p2 q2, e = .returned (.agg #[.slice p2 zs2.length q2, .int .i64 b2]) ∧ ints.Reads .i64 w' p2 zs2 ∧ zs2.length ≤ q2 ∧ ints.Reads .i64 w' p1 zs1 ∧ zs1.length ≤ q1 ∧ ints.Reads .i64 w' p0 zs0 ∧ zs0.length ≤ q0 ∧ w'.cell? ⟨w.heap.size, 0, none⟩ = some (.slice a0 zs0.length c0) ∧ w'.cell? ⟨w.heap.size, 1, none⟩ = some (.int .i64 b0) ∧ w'.cell? ⟨w.heap.size + 1, 0, none⟩ = some (.slice a1 zs1.length c1) ∧ w'.cell? ⟨w.heap.size + 1, 1, none⟩ = some (.int .i64 b1) ∧ w'.cell? ⟨w.heap.size + 1 + 1, 0, none⟩ = some (.slice a2 zs2.length c2) ∧ w'.cell? ⟨w.heap.size + 1 + 1, 1, none⟩ = some (.int .i64 b2) ∧ Below w3.heap.size w3 w' from fun wa p0 q0 p1 q1 hS k0 k1 k2 k3 => by
    have hz := hS.2.2.2.2.2.2.size
    refine (planefns.to_any a2 zs2 c2 b2 _ (HR2.out.below (HB3.out.trans (hS.2.2.2.2.2.2.mono (by omega)))) (by omega)).mono ?_
    rintro e w' ⟨v, rfl, ho, hb⟩
    obtain ⟨p2, q2, rfl, _, hcap9, _⟩ := ho.slice
    exact ⟨p2, q2, rfl, ho.reads, hcap9, k0.below hb, k1, k2.below hb, k3, cell_below hb hS.1 (by omega), cell_below hb hS.2.1 (by omega), cell_below hb hS.2.2.1 (by omega), cell_below hb hS.2.2.2.1 (by omega), cell_below hb hS.2.2.2.2.1 (by omega), cell_below hb hS.2.2.2.2.2.1 (by omega), hS.2.2.2.2.2.2.trans (hb.mono (by omega))⟩)
  have HT4 := Lib.hid (show ∀ (wa : World) (p0 : Option Addr) (q0 : Nat) (p1 : Option Addr) (q1 : Nat) (p2 : Option Addr) (q2 : Nat), (wa.cell? ⟨w.heap.size, 0, none⟩ = some (.slice a0 zs0.length c0) ∧ wa.cell? ⟨w.heap.size, 1, none⟩ = some (.int .i64 b0) ∧ wa.cell? ⟨w.heap.size + 1, 0, none⟩ = some (.slice a1 zs1.length c1) ∧ wa.cell? ⟨w.heap.size + 1, 1, none⟩ = some (.int .i64 b1) ∧ wa.cell? ⟨w.heap.size + 1 + 1, 0, none⟩ = some (.slice a2 zs2.length c2) ∧ wa.cell? ⟨w.heap.size + 1 + 1, 1, none⟩ = some (.int .i64 b2) ∧ Below w3.heap.size w3 wa) → ints.Reads .i64 wa p2 zs2 → zs2.length ≤ q2 → ints.Reads .i64 wa p1 zs1 → zs1.length ≤ q1 → ints.Reads .i64 wa p0 zs0 → zs0.length ≤ q0 → Calls Try.prog 31 #[.slice a3 zs3.length c3] wa fun e w' => ∃ p3 q3, e = .returned (.slice p3 zs3.length q3) ∧ ints.Reads .i64 w' p3 zs3 ∧ zs3.length ≤ q3 ∧ ints.Reads .i64 w' p2 zs2 ∧ zs2.length ≤ q2 ∧ ints.Reads .i64 w' p1 zs1 ∧ zs1.length ≤ q1 ∧ ints.Reads .i64 w' p0 zs0 ∧ zs0.length ≤ q0 ∧ w'.cell? ⟨w.heap.size, 0, none⟩ = some (.slice a0 zs0.length c0) ∧ w'.cell? ⟨w.heap.size, 1, none⟩ = some (.int .i64 b0) ∧ w'.cell? ⟨w.heap.size + 1, 0, none⟩ = some (.slice a1 zs1.length c1) ∧ w'.cell? ⟨w.heap.size + 1, 1, none⟩ = some (.int .i64 b1) ∧ w'.cell? ⟨w.heap.size + 1 + 1, 0, none⟩ = some (.slice a2 zs2.length c2) ∧ w'.cell? ⟨w.heap.size + 1 + 1, 1, none⟩ = some (.int .i64 b2) ∧ Below w3.heap.size w3 w' from fun wa p0 q0 p1 q1 p2 q2 hS k0 k1 k2 k3 k4 k5 => by
    have hz := hS.2.2.2.2.2.2.size
    refine (intfns.to_any a3 zs3 c3 _ (HR3.out.below (HB3.out.trans (hS.2.2.2.2.2.2.mono (by omega)))) (by omega)).mono ?_
    rintro e w' ⟨v, rfl, ho, hb⟩
    obtain ⟨p3, q3, rfl, _, hcap9, _⟩ := ho.slice
    exact ⟨p3, q3, rfl, ho.reads, hcap9, k0.below hb, k1, k2.below hb, k3, k4.below hb, k5, cell_below hb hS.1 (by omega), cell_below hb hS.2.1 (by omega), cell_below hb hS.2.2.1 (by omega), cell_below hb hS.2.2.2.1 (by omega), cell_below hb hS.2.2.2.2.1 (by omega), cell_below hb hS.2.2.2.2.2.1 (by omega), hS.2.2.2.2.2.2.trans (hb.mono (by omega))⟩)
  have HT5 := Lib.hid (show ∀ (wa : World) (p0 : Option Addr) (q0 : Nat) (p1 : Option Addr) (q1 : Nat) (p2 : Option Addr) (q2 : Nat) (p3 : Option Addr) (q3 : Nat), (wa.cell? ⟨w.heap.size, 0, none⟩ = some (.slice a0 zs0.length c0) ∧ wa.cell? ⟨w.heap.size, 1, none⟩ = some (.int .i64 b0) ∧ wa.cell? ⟨w.heap.size + 1, 0, none⟩ = some (.slice a1 zs1.length c1) ∧ wa.cell? ⟨w.heap.size + 1, 1, none⟩ = some (.int .i64 b1) ∧ wa.cell? ⟨w.heap.size + 1 + 1, 0, none⟩ = some (.slice a2 zs2.length c2) ∧ wa.cell? ⟨w.heap.size + 1 + 1, 1, none⟩ = some (.int .i64 b2) ∧ Below w3.heap.size w3 wa) → ints.Reads .i64 wa p3 zs3 → zs3.length ≤ q3 → ints.Reads .i64 wa p2 zs2 → zs2.length ≤ q2 → ints.Reads .i64 wa p1 zs1 → zs1.length ≤ q1 → ints.Reads .i64 wa p0 zs0 → zs0.length ≤ q0 → Calls Try.prog 55 #[.agg #[.slice p0 zs0.length q0, .int .i64 b0], .agg #[.slice p1 zs1.length q1, .int .i64 b1], .agg #[.slice p2 zs2.length q2, .int .i64 b2], .slice p3 zs3.length q3] wa fun e w' => e = .returned (.tuple #[.int .i64 r0, .bool ok]) ∧ w'.cell? ⟨w.heap.size, 0, none⟩ = some (.slice a0 zs0.length c0) ∧ w'.cell? ⟨w.heap.size, 1, none⟩ = some (.int .i64 b0) ∧ w'.cell? ⟨w.heap.size + 1, 0, none⟩ = some (.slice a1 zs1.length c1) ∧ w'.cell? ⟨w.heap.size + 1, 1, none⟩ = some (.int .i64 b1) ∧ w'.cell? ⟨w.heap.size + 1 + 1, 0, none⟩ = some (.slice a2 zs2.length c2) ∧ w'.cell? ⟨w.heap.size + 1 + 1, 1, none⟩ = some (.int .i64 b2) ∧ Below w3.heap.size w3 w' from fun wa p0 q0 p1 q1 p2 q2 p3 q3 hS k0 k1 k2 k3 k4 k5 k6 k7 => by
    have hz := hS.2.2.2.2.2.2.size
    refine (HSpec.out _ _ _ _ _ _ _ _ _ k6 k7 k4 k5 k2 k3 k0 k1).mono ?_
    rintro e w' ⟨rfl, hb⟩
    exact ⟨rfl, cell_below hb hS.1 (by omega), cell_below hb hS.2.1 (by omega), cell_below hb hS.2.2.1 (by omega), cell_below hb hS.2.2.2.1 (by omega), cell_below hb hS.2.2.2.2.1 (by omega), cell_below hb hS.2.2.2.2.2.1 (by omega), hS.2.2.2.2.2.2.trans (hb.mono (by omega))⟩)
  go_region_held3 (fun w' => w'.cell? ⟨w.heap.size, 0, none⟩ = some (.slice a0 zs0.length c0) ∧ w'.cell? ⟨w.heap.size, 1, none⟩ = some (.int .i64 b0) ∧ w'.cell? ⟨w.heap.size + 1, 0, none⟩ = some (.slice a1 zs1.length c1) ∧ w'.cell? ⟨w.heap.size + 1, 1, none⟩ = some (.int .i64 b1) ∧ w'.cell? ⟨w.heap.size + 1 + 1, 0, none⟩ = some (.slice a2 zs2.length c2) ∧ w'.cell? ⟨w.heap.size + 1 + 1, 1, none⟩ = some (.int .i64 b2) ∧ Below w3.heap.size w3 w') (first | assumption | exact ⟨x0_0, x0_1, x1_0, x1_1, x2_0, x2_1, Below.refl _ _⟩ | exact ⟨x0_0, x0_1, x1_0, x1_1, x2_0, x2_1, (Below.refl _ _).drew⟩) (first | (go_at_call_of 18 (Value.agg #[.slice a0 zs0.length c0, .int .i64 b0]); refine Calls.mono (HT1.out _  (by assumption)) ?_; rintro e w' ⟨p0, q0, rfl, m1_0, m1_1, hbx⟩) | (go_at_call_of 18 (Value.agg #[.slice a1 zs1.length c1, .int .i64 b1]); refine Calls.mono (HT2.out _ _ _ (by assumption) (by assumption) (by assumption)) ?_; rintro e w' ⟨p1, q1, rfl, m2_0, m2_1, m2_2, m2_3, hbx⟩) | (go_at_call_of 18 (Value.agg #[.slice a2 zs2.length c2, .int .i64 b2]); refine Calls.mono (HT3.out _ _ _ _ _ (by assumption) (by assumption) (by assumption) (by assumption) (by assumption)) ?_; rintro e w' ⟨p2, q2, rfl, m3_0, m3_1, m3_2, m3_3, m3_4, m3_5, hbx⟩) | (go_at_call 31; refine Calls.mono (HT4.out _ _ _ _ _ _ _ (by assumption) (by assumption) (by assumption) (by assumption) (by assumption) (by assumption) (by assumption)) ?_; rintro e w' ⟨p3, q3, rfl, m4_0, m4_1, m4_2, m4_3, m4_4, m4_5, m4_6, m4_7, hbx⟩) | (go_at_call 55; refine Calls.mono (HT5.out _ _ _ _ _ _ _ _ _ (by assumption) (by assumption) (by assumption) (by assumption) (by assumption) (by assumption) (by assumption) (by assumption) (by assumption)) ?_; rintro e w4 ⟨rfl, hbx⟩))
  obtain ⟨_, _, _, _, _, _, hb⟩ := hbx
  have s4 : w3.heap.size ≤ w4.heap.size := hb.size
  have n4_0 : w.heap.size < w4.heap.size := by omega
  have n4_1 : w.heap.size + 1 < w4.heap.size := by omega
  have n4_2 : w.heap.size + 1 + 1 < w4.heap.size := by omega
  replace x0_0 := cell_below hb x0_0 (by omega)
  replace x0_1 := cell_below hb x0_1 (by omega)
  replace x1_0 := cell_below hb x1_0 (by omega)
  replace x1_1 := cell_below hb x1_1 (by omega)
  replace x2_0 := cell_below hb x2_0 (by omega)
  replace x2_1 := cell_below hb x2_1 (by omega)
  have HB4 := Lib.hid (HB3.out.trans (hb.mono (by omega)))
  clear hb
  clear HT1 HT2 HT3 HT4 HT5
  go_wp2_with fail
  refine (planefns.to_any a0 zs0 c0 b0 _ (HR0.out.below HB4.out) (by omega)).mono ?_
  rintro e w5 ⟨v, rfl, ho, hb⟩
  obtain ⟨x0a, x0c, rfl, _, hcOx0, _⟩ := ho.slice
  have s5 : w4.heap.size ≤ w5.heap.size := hb.size
  have n5_0 : w.heap.size < w5.heap.size := by omega
  have n5_1 : w.heap.size + 1 < w5.heap.size := by omega
  have n5_2 : w.heap.size + 1 + 1 < w5.heap.size := by omega
  replace x0_0 := cell_below hb x0_0 (by omega)
  replace x0_1 := cell_below hb x0_1 (by omega)
  replace x1_0 := cell_below hb x1_0 (by omega)
  replace x1_1 := cell_below hb x1_1 (by omega)
  replace x2_0 := cell_below hb x2_0 (by omega)
  replace x2_1 := cell_below hb x2_1 (by omega)
  have HB5 := Lib.hid (HB4.out.trans (hb.mono (by omega)))
  clear hb
  have Ox0 := Lib.hid ho
  clear ho
  go_wp2_with fail
  have p0_0 : (w5.alloc (.cells #[.slice x0a zs0.length x0c, .int .i64 b0] 27)).cell? ⟨w5.heap.size, 0, none⟩ = some (.slice x0a zs0.length x0c) := cell_new _ _ _ rfl rfl
  have p0_1 : (w5.alloc (.cells #[.slice x0a zs0.length x0c, .int .i64 b0] 27)).cell? ⟨w5.heap.size, 1, none⟩ = some (.int .i64 b0) := cell_new _ _ _ rfl rfl
  have hb := below_alloc w5 (.cells #[.slice x0a zs0.length x0c, .int .i64 b0] 27)
  have z6 := size_alloc' w5 (.cells #[.slice x0a zs0.length x0c, .int .i64 b0] 27)
  generalize hw : w5.alloc (.cells #[.slice x0a zs0.length x0c, .int .i64 b0] 27) = w6 at *
  clear hw
  have s6 : w5.heap.size ≤ w6.heap.size := hb.size
  have n6_0 : w.heap.size < w6.heap.size := by omega
  have n6_1 : w.heap.size + 1 < w6.heap.size := by omega
  have n6_2 : w.heap.size + 1 + 1 < w6.heap.size := by omega
  replace x0_0 := cell_below hb x0_0 (by omega)
  replace x0_1 := cell_below hb x0_1 (by omega)
  replace x1_0 := cell_below hb x1_0 (by omega)
  replace x1_1 := cell_below hb x1_1 (by omega)
  replace x2_0 := cell_below hb x2_0 (by omega)
  replace x2_1 := cell_below hb x2_1 (by omega)
  have HB6 := Lib.hid (HB5.out.trans (hb.mono (by omega)))
  replace Ox0 := Lib.hid (Ox0.out.below hb)
  clear hb
  refine (planefns.to_any a1 zs1 c1 b1 _ (HR1.out.below HB6.out) (by omega)).mono ?_
  rintro e w7 ⟨v, rfl, ho, hb⟩
  obtain ⟨x1a, x1c, rfl, _, hcOx1, _⟩ := ho.slice
  have s7 : w6.heap.size ≤ w7.heap.size := hb.size
  have n7_0 : w.heap.size < w7.heap.size := by omega
  have n7_1 : w.heap.size + 1 < w7.heap.size := by omega
  have n7_2 : w.heap.size + 1 + 1 < w7.heap.size := by omega
  have n7_3 : w5.heap.size < w7.heap.size := by omega
  replace x0_0 := cell_below hb x0_0 (by omega)
  replace x0_1 := cell_below hb x0_1 (by omega)
  replace x1_0 := cell_below hb x1_0 (by omega)
  replace x1_1 := cell_below hb x1_1 (by omega)
  replace x2_0 := cell_below hb x2_0 (by omega)
  replace x2_1 := cell_below hb x2_1 (by omega)
  replace p0_0 := cell_below hb p0_0 (by omega)
  replace p0_1 := cell_below hb p0_1 (by omega)
  have HB7 := Lib.hid (HB6.out.trans (hb.mono (by omega)))
  replace Ox0 := Lib.hid (Ox0.out.below hb)
  clear hb
  have Ox1 := Lib.hid ho
  clear ho
  go_wp2_with fail
  have p1_0 : (w7.alloc (.cells #[.slice x1a zs1.length x1c, .int .i64 b1] 27)).cell? ⟨w7.heap.size, 0, none⟩ = some (.slice x1a zs1.length x1c) := cell_new _ _ _ rfl rfl
  have p1_1 : (w7.alloc (.cells #[.slice x1a zs1.length x1c, .int .i64 b1] 27)).cell? ⟨w7.heap.size, 1, none⟩ = some (.int .i64 b1) := cell_new _ _ _ rfl rfl
  have hb := below_alloc w7 (.cells #[.slice x1a zs1.length x1c, .int .i64 b1] 27)
  have z8 := size_alloc' w7 (.cells #[.slice x1a zs1.length x1c, .int .i64 b1] 27)
  generalize hw : w7.alloc (.cells #[.slice x1a zs1.length x1c, .int .i64 b1] 27) = w8 at *
  clear hw
  have s8 : w7.heap.size ≤ w8.heap.size := hb.size
  have n8_0 : w.heap.size < w8.heap.size := by omega
  have n8_1 : w.heap.size + 1 < w8.heap.size := by omega
  have n8_2 : w.heap.size + 1 + 1 < w8.heap.size := by omega
  have n8_3 : w5.heap.size < w8.heap.size := by omega
  replace x0_0 := cell_below hb x0_0 (by omega)
  replace x0_1 := cell_below hb x0_1 (by omega)
  replace x1_0 := cell_below hb x1_0 (by omega)
  replace x1_1 := cell_below hb x1_1 (by omega)
  replace x2_0 := cell_below hb x2_0 (by omega)
  replace x2_1 := cell_below hb x2_1 (by omega)
  replace p0_0 := cell_below hb p0_0 (by omega)
  replace p0_1 := cell_below hb p0_1 (by omega)
  have HB8 := Lib.hid (HB7.out.trans (hb.mono (by omega)))
  replace Ox0 := Lib.hid (Ox0.out.below hb)
  replace Ox1 := Lib.hid (Ox1.out.below hb)
  clear hb
  refine (planefns.to_any a2 zs2 c2 b2 _ (HR2.out.below HB8.out) (by omega)).mono ?_
  rintro e w9 ⟨v, rfl, ho, hb⟩
  obtain ⟨x2a, x2c, rfl, _, hcOx2, _⟩ := ho.slice
  have s9 : w8.heap.size ≤ w9.heap.size := hb.size
  have n9_0 : w.heap.size < w9.heap.size := by omega
  have n9_1 : w.heap.size + 1 < w9.heap.size := by omega
  have n9_2 : w.heap.size + 1 + 1 < w9.heap.size := by omega
  have n9_3 : w5.heap.size < w9.heap.size := by omega
  have n9_4 : w7.heap.size < w9.heap.size := by omega
  replace x0_0 := cell_below hb x0_0 (by omega)
  replace x0_1 := cell_below hb x0_1 (by omega)
  replace x1_0 := cell_below hb x1_0 (by omega)
  replace x1_1 := cell_below hb x1_1 (by omega)
  replace x2_0 := cell_below hb x2_0 (by omega)
  replace x2_1 := cell_below hb x2_1 (by omega)
  replace p0_0 := cell_below hb p0_0 (by omega)
  replace p0_1 := cell_below hb p0_1 (by omega)
  replace p1_0 := cell_below hb p1_0 (by omega)
  replace p1_1 := cell_below hb p1_1 (by omega)
  have HB9 := Lib.hid (HB8.out.trans (hb.mono (by omega)))
  replace Ox0 := Lib.hid (Ox0.out.below hb)
  replace Ox1 := Lib.hid (Ox1.out.below hb)
  clear hb
  have Ox2 := Lib.hid ho
  clear ho
  go_wp2_with fail
  have p2_0 : (w9.alloc (.cells #[.slice x2a zs2.length x2c, .int .i64 b2] 27)).cell? ⟨w9.heap.size, 0, none⟩ = some (.slice x2a zs2.length x2c) := cell_new _ _ _ rfl rfl
  have p2_1 : (w9.alloc (.cells #[.slice x2a zs2.length x2c, .int .i64 b2] 27)).cell? ⟨w9.heap.size, 1, none⟩ = some (.int .i64 b2) := cell_new _ _ _ rfl rfl
  have hb := below_alloc w9 (.cells #[.slice x2a zs2.length x2c, .int .i64 b2] 27)
  have z10 := size_alloc' w9 (.cells #[.slice x2a zs2.length x2c, .int .i64 b2] 27)
  generalize hw : w9.alloc (.cells #[.slice x2a zs2.length x2c, .int .i64 b2] 27) = w10 at *
  clear hw
  have s10 : w9.heap.size ≤ w10.heap.size := hb.size
  have n10_0 : w.heap.size < w10.heap.size := by omega
  have n10_1 : w.heap.size + 1 < w10.heap.size := by omega
  have n10_2 : w.heap.size + 1 + 1 < w10.heap.size := by omega
  have n10_3 : w5.heap.size < w10.heap.size := by omega
  have n10_4 : w7.heap.size < w10.heap.size := by omega
  replace x0_0 := cell_below hb x0_0 (by omega)
  replace x0_1 := cell_below hb x0_1 (by omega)
  replace x1_0 := cell_below hb x1_0 (by omega)
  replace x1_1 := cell_below hb x1_1 (by omega)
  replace x2_0 := cell_below hb x2_0 (by omega)
  replace x2_1 := cell_below hb x2_1 (by omega)
  replace p0_0 := cell_below hb p0_0 (by omega)
  replace p0_1 := cell_below hb p0_1 (by omega)
  replace p1_0 := cell_below hb p1_0 (by omega)
  replace p1_1 := cell_below hb p1_1 (by omega)
  have HB10 := Lib.hid (HB9.out.trans (hb.mono (by omega)))
  replace Ox0 := Lib.hid (Ox0.out.below hb)
  replace Ox1 := Lib.hid (Ox1.out.below hb)
  replace Ox2 := Lib.hid (Ox2.out.below hb)
  clear hb
  refine (intfns.to_any a3 zs3 c3 _ (HR3.out.below HB10.out) (by omega)).mono ?_
  rintro e w11 ⟨v, rfl, ho, hb⟩
  obtain ⟨x3a, x3c, rfl, _, hcOx3, _⟩ := ho.slice
  have s11 : w10.heap.size ≤ w11.heap.size := hb.size
  have n11_0 : w.heap.size < w11.heap.size := by omega
  have n11_1 : w.heap.size + 1 < w11.heap.size := by omega
  have n11_2 : w.heap.size + 1 + 1 < w11.heap.size := by omega
  have n11_3 : w5.heap.size < w11.heap.size := by omega
  have n11_4 : w7.heap.size < w11.heap.size := by omega
  have n11_5 : w9.heap.size < w11.heap.size := by omega
  replace x0_0 := cell_below hb x0_0 (by omega)
  replace x0_1 := cell_below hb x0_1 (by omega)
  replace x1_0 := cell_below hb x1_0 (by omega)
  replace x1_1 := cell_below hb x1_1 (by omega)
  replace x2_0 := cell_below hb x2_0 (by omega)
  replace x2_1 := cell_below hb x2_1 (by omega)
  replace p0_0 := cell_below hb p0_0 (by omega)
  replace p0_1 := cell_below hb p0_1 (by omega)
  replace p1_0 := cell_below hb p1_0 (by omega)
  replace p1_1 := cell_below hb p1_1 (by omega)
  replace p2_0 := cell_below hb p2_0 (by omega)
  replace p2_1 := cell_below hb p2_1 (by omega)
  have HB11 := Lib.hid (HB10.out.trans (hb.mono (by omega)))
  replace Ox0 := Lib.hid (Ox0.out.below hb)
  replace Ox1 := Lib.hid (Ox1.out.below hb)
  replace Ox2 := Lib.hid (Ox2.out.below hb)
  clear hb
  have Ox3 := Lib.hid ho
  clear ho
  go_wp2_with fail
  refine (HImpl.out _ _ _ _ _ _ _ _ _ Ox0.out.reads hcOx0 Ox1.out.reads hcOx1 Ox2.out.reads hcOx2 Ox3.out.reads hcOx3).mono ?_
  rintro e w12 ⟨rfl, hb⟩
  have s12 : w11.heap.size ≤ w12.heap.size := hb.size
  have n12_0 : w.heap.size < w12.heap.size := by omega
  have n12_1 : w.heap.size + 1 < w12.heap.size := by omega
  have n12_2 : w.heap.size + 1 + 1 < w12.heap.size := by omega
  have n12_3 : w5.heap.size < w12.heap.size := by omega
  have n12_4 : w7.heap.size < w12.heap.size := by omega
  have n12_5 : w9.heap.size < w12.heap.size := by omega
  replace x0_0 := cell_below hb x0_0 (by omega)
  replace x0_1 := cell_below hb x0_1 (by omega)
  replace x1_0 := cell_below hb x1_0 (by omega)
  replace x1_1 := cell_below hb x1_1 (by omega)
  replace x2_0 := cell_below hb x2_0 (by omega)
  replace x2_1 := cell_below hb x2_1 (by omega)
  replace p0_0 := cell_below hb p0_0 (by omega)
  replace p0_1 := cell_below hb p0_1 (by omega)
  replace p1_0 := cell_below hb p1_0 (by omega)
  replace p1_1 := cell_below hb p1_1 (by omega)
  replace p2_0 := cell_below hb p2_0 (by omega)
  replace p2_1 := cell_below hb p2_1 (by omega)
  have HB12 := Lib.hid (HB11.out.trans (hb.mono (by omega)))
  replace Ox0 := Lib.hid (Ox0.out.below hb)
  replace Ox1 := Lib.hid (Ox1.out.below hb)
  replace Ox2 := Lib.hid (Ox2.out.below hb)
  replace Ox3 := Lib.hid (Ox3.out.below hb)
  clear hb
  go_wp2_with fail
  have HT1 := Lib.hid (show ∀ wa : World, (wa.cell? ⟨w.heap.size, 0, none⟩ = some (.slice a0 zs0.length c0) ∧ wa.cell? ⟨w.heap.size, 1, none⟩ = some (.int .i64 b0) ∧ wa.cell? ⟨w.heap.size + 1, 0, none⟩ = some (.slice a1 zs1.length c1) ∧ wa.cell? ⟨w.heap.size + 1, 1, none⟩ = some (.int .i64 b1) ∧ wa.cell? ⟨w.heap.size + 1 + 1, 0, none⟩ = some (.slice a2 zs2.length c2) ∧ wa.cell? ⟨w.heap.size + 1 + 1, 1, none⟩ = some (.int .i64 b2) ∧ wa.cell? ⟨w5.heap.size, 0, none⟩ = some (.slice x0a zs0.length x0c) ∧ wa.cell? ⟨w5.heap.size, 1, none⟩ = some (.int .i64 b0) ∧ wa.cell? ⟨w7.heap.size, 0, none⟩ = some (.slice x1a zs1.length x1c) ∧ wa.cell? ⟨w7.heap.size, 1, none⟩ = some (.int .i64 b1) ∧ wa.cell? ⟨w9.heap.size, 0, none⟩ = some (.slice x2a zs2.length x2c) ∧ wa.cell? ⟨w9.heap.size, 1, none⟩ = some (.int .i64 b2) ∧ Below w12.heap.size w12 wa) → Calls Try.prog 18 #[.agg #[.slice a0 zs0.length c0, .int .i64 b0]] wa fun e w' => ∃ p q, e = .returned (.agg #[.slice p zs0.length q, .int .i64 b0]) ∧ ints.Reads .i64 w' p zs0 ∧ (w'.cell? ⟨w.heap.size, 0, none⟩ = some (.slice a0 zs0.length c0) ∧ w'.cell? ⟨w.heap.size, 1, none⟩ = some (.int .i64 b0) ∧ w'.cell? ⟨w.heap.size + 1, 0, none⟩ = some (.slice a1 zs1.length c1) ∧ w'.cell? ⟨w.heap.size + 1, 1, none⟩ = some (.int .i64 b1) ∧ w'.cell? ⟨w.heap.size + 1 + 1, 0, none⟩ = some (.slice a2 zs2.length c2) ∧ w'.cell? ⟨w.heap.size + 1 + 1, 1, none⟩ = some (.int .i64 b2) ∧ w'.cell? ⟨w5.heap.size, 0, none⟩ = some (.slice x0a zs0.length x0c) ∧ w'.cell? ⟨w5.heap.size, 1, none⟩ = some (.int .i64 b0) ∧ w'.cell? ⟨w7.heap.size, 0, none⟩ = some (.slice x1a zs1.length x1c) ∧ w'.cell? ⟨w7.heap.size, 1, none⟩ = some (.int .i64 b1) ∧ w'.cell? ⟨w9.heap.size, 0, none⟩ = some (.slice x2a zs2.length x2c) ∧ w'.cell? ⟨w9.heap.size, 1, none⟩ = some (.int .i64 b2) ∧ Below w12.heap.size w12 w') from fun wa hS => by
    have hz := hS.2.2.2.2.2.2.2.2.2.2.2.2.size
    refine (planefns.to_any a0 zs0 c0 b0 _ (HR0.out.below (HB12.out.trans (hS.2.2.2.2.2.2.2.2.2.2.2.2.mono (by omega)))) (by omega)).mono ?_
    rintro e w' ⟨v, rfl, ho, hb⟩
    obtain ⟨p, q, rfl, _, _, _⟩ := ho.slice
    exact ⟨p, q, rfl, ho.reads, cell_below hb hS.1 (by omega), cell_below hb hS.2.1 (by omega), cell_below hb hS.2.2.1 (by omega), cell_below hb hS.2.2.2.1 (by omega), cell_below hb hS.2.2.2.2.1 (by omega), cell_below hb hS.2.2.2.2.2.1 (by omega), cell_below hb hS.2.2.2.2.2.2.1 (by omega), cell_below hb hS.2.2.2.2.2.2.2.1 (by omega), cell_below hb hS.2.2.2.2.2.2.2.2.1 (by omega), cell_below hb hS.2.2.2.2.2.2.2.2.2.1 (by omega), cell_below hb hS.2.2.2.2.2.2.2.2.2.2.1 (by omega), cell_below hb hS.2.2.2.2.2.2.2.2.2.2.2.1 (by omega), hS.2.2.2.2.2.2.2.2.2.2.2.2.trans (hb.mono (by omega))⟩)
  have HT2 := Lib.hid (show ∀ (wa : World) (p : Option Addr) (q : Nat), (wa.cell? ⟨w.heap.size, 0, none⟩ = some (.slice a0 zs0.length c0) ∧ wa.cell? ⟨w.heap.size, 1, none⟩ = some (.int .i64 b0) ∧ wa.cell? ⟨w.heap.size + 1, 0, none⟩ = some (.slice a1 zs1.length c1) ∧ wa.cell? ⟨w.heap.size + 1, 1, none⟩ = some (.int .i64 b1) ∧ wa.cell? ⟨w.heap.size + 1 + 1, 0, none⟩ = some (.slice a2 zs2.length c2) ∧ wa.cell? ⟨w.heap.size + 1 + 1, 1, none⟩ = some (.int .i64 b2) ∧ wa.cell? ⟨w5.heap.size, 0, none⟩ = some (.slice x0a zs0.length x0c) ∧ wa.cell? ⟨w5.heap.size, 1, none⟩ = some (.int .i64 b0) ∧ wa.cell? ⟨w7.heap.size, 0, none⟩ = some (.slice x1a zs1.length x1c) ∧ wa.cell? ⟨w7.heap.size, 1, none⟩ = some (.int .i64 b1) ∧ wa.cell? ⟨w9.heap.size, 0, none⟩ = some (.slice x2a zs2.length x2c) ∧ wa.cell? ⟨w9.heap.size, 1, none⟩ = some (.int .i64 b2) ∧ Below w12.heap.size w12 wa) → ints.Reads .i64 wa p zs0 → Calls Try.prog 20 #[.agg #[.slice x0a zs0.length x0c, .int .i64 b0], .agg #[.slice p zs0.length q, .int .i64 b0]] wa fun e w' => e = .returned (.bool true) ∧ (w'.cell? ⟨w.heap.size, 0, none⟩ = some (.slice a0 zs0.length c0) ∧ w'.cell? ⟨w.heap.size, 1, none⟩ = some (.int .i64 b0) ∧ w'.cell? ⟨w.heap.size + 1, 0, none⟩ = some (.slice a1 zs1.length c1) ∧ w'.cell? ⟨w.heap.size + 1, 1, none⟩ = some (.int .i64 b1) ∧ w'.cell? ⟨w.heap.size + 1 + 1, 0, none⟩ = some (.slice a2 zs2.length c2) ∧ w'.cell? ⟨w.heap.size + 1 + 1, 1, none⟩ = some (.int .i64 b2) ∧ w'.cell? ⟨w5.heap.size, 0, none⟩ = some (.slice x0a zs0.length x0c) ∧ w'.cell? ⟨w5.heap.size, 1, none⟩ = some (.int .i64 b0) ∧ w'.cell? ⟨w7.heap.size, 0, none⟩ = some (.slice x1a zs1.length x1c) ∧ w'.cell? ⟨w7.heap.size, 1, none⟩ = some (.int .i64 b1) ∧ w'.cell? ⟨w9.heap.size, 0, none⟩ = some (.slice x2a zs2.length x2c) ∧ w'.cell? ⟨w9.heap.size, 1, none⟩ = some (.int .i64 b2) ∧ Below w12.heap.size w12 w') from fun wa p q hS k1 => by
    have hz := hS.2.2.2.2.2.2.2.2.2.2.2.2.size
    have ho := Ox0.out.below hS.2.2.2.2.2.2.2.2.2.2.2.2
    refine (planefns.eq_same _ _ zs0 _ _ b0 _ ho.reads k1 (by omega)).mono ?_
    rintro e w' ⟨rfl, hb⟩
    exact ⟨rfl, cell_below hb hS.1 (by omega), cell_below hb hS.2.1 (by omega), cell_below hb hS.2.2.1 (by omega), cell_below hb hS.2.2.2.1 (by omega), cell_below hb hS.2.2.2.2.1 (by omega), cell_below hb hS.2.2.2.2.2.1 (by omega), cell_below hb hS.2.2.2.2.2.2.1 (by omega), cell_below hb hS.2.2.2.2.2.2.2.1 (by omega), cell_below hb hS.2.2.2.2.2.2.2.2.1 (by omega), cell_below hb hS.2.2.2.2.2.2.2.2.2.1 (by omega), cell_below hb hS.2.2.2.2.2.2.2.2.2.2.1 (by omega), cell_below hb hS.2.2.2.2.2.2.2.2.2.2.2.1 (by omega), hS.2.2.2.2.2.2.2.2.2.2.2.2.trans (hb.mono (by omega))⟩)
  go_region_held3 (fun w' => w'.cell? ⟨w.heap.size, 0, none⟩ = some (.slice a0 zs0.length c0) ∧ w'.cell? ⟨w.heap.size, 1, none⟩ = some (.int .i64 b0) ∧ w'.cell? ⟨w.heap.size + 1, 0, none⟩ = some (.slice a1 zs1.length c1) ∧ w'.cell? ⟨w.heap.size + 1, 1, none⟩ = some (.int .i64 b1) ∧ w'.cell? ⟨w.heap.size + 1 + 1, 0, none⟩ = some (.slice a2 zs2.length c2) ∧ w'.cell? ⟨w.heap.size + 1 + 1, 1, none⟩ = some (.int .i64 b2) ∧ w'.cell? ⟨w5.heap.size, 0, none⟩ = some (.slice x0a zs0.length x0c) ∧ w'.cell? ⟨w5.heap.size, 1, none⟩ = some (.int .i64 b0) ∧ w'.cell? ⟨w7.heap.size, 0, none⟩ = some (.slice x1a zs1.length x1c) ∧ w'.cell? ⟨w7.heap.size, 1, none⟩ = some (.int .i64 b1) ∧ w'.cell? ⟨w9.heap.size, 0, none⟩ = some (.slice x2a zs2.length x2c) ∧ w'.cell? ⟨w9.heap.size, 1, none⟩ = some (.int .i64 b2) ∧ Below w12.heap.size w12 w') (first | assumption | exact ⟨x0_0, x0_1, x1_0, x1_1, x2_0, x2_1, p0_0, p0_1, p1_0, p1_1, p2_0, p2_1, Below.refl _ _⟩ | exact ⟨x0_0, x0_1, x1_0, x1_1, x2_0, x2_1, p0_0, p0_1, p1_0, p1_1, p2_0, p2_1, (Below.refl _ _).drew⟩) (first | (go_at_call 18; refine Calls.mono (HT1.out _ ?_) ?_; assumption; rintro e w' ⟨p, q, rfl, k1, hbx⟩) | (go_at_call 20; refine Calls.mono (HT2.out _ _ _ ?_ ?_) ?_; assumption; assumption; rintro e w13 ⟨rfl, hbx⟩))
  obtain ⟨_, _, _, _, _, _, _, _, _, _, _, _, hb⟩ := hbx
  have s13 : w12.heap.size ≤ w13.heap.size := hb.size
  have n13_0 : w.heap.size < w13.heap.size := by omega
  have n13_1 : w.heap.size + 1 < w13.heap.size := by omega
  have n13_2 : w.heap.size + 1 + 1 < w13.heap.size := by omega
  have n13_3 : w5.heap.size < w13.heap.size := by omega
  have n13_4 : w7.heap.size < w13.heap.size := by omega
  have n13_5 : w9.heap.size < w13.heap.size := by omega
  replace x0_0 := cell_below hb x0_0 (by omega)
  replace x0_1 := cell_below hb x0_1 (by omega)
  replace x1_0 := cell_below hb x1_0 (by omega)
  replace x1_1 := cell_below hb x1_1 (by omega)
  replace x2_0 := cell_below hb x2_0 (by omega)
  replace x2_1 := cell_below hb x2_1 (by omega)
  replace p0_0 := cell_below hb p0_0 (by omega)
  replace p0_1 := cell_below hb p0_1 (by omega)
  replace p1_0 := cell_below hb p1_0 (by omega)
  replace p1_1 := cell_below hb p1_1 (by omega)
  replace p2_0 := cell_below hb p2_0 (by omega)
  replace p2_1 := cell_below hb p2_1 (by omega)
  have HB13 := Lib.hid (HB12.out.trans (hb.mono (by omega)))
  replace Ox0 := Lib.hid (Ox0.out.below hb)
  replace Ox1 := Lib.hid (Ox1.out.below hb)
  replace Ox2 := Lib.hid (Ox2.out.below hb)
  replace Ox3 := Lib.hid (Ox3.out.below hb)
  clear hb
  clear HT1 HT2
  go_wp2_with fail
  have HT1 := Lib.hid (show ∀ wa : World, (wa.cell? ⟨w.heap.size, 0, none⟩ = some (.slice a0 zs0.length c0) ∧ wa.cell? ⟨w.heap.size, 1, none⟩ = some (.int .i64 b0) ∧ wa.cell? ⟨w.heap.size + 1, 0, none⟩ = some (.slice a1 zs1.length c1) ∧ wa.cell? ⟨w.heap.size + 1, 1, none⟩ = some (.int .i64 b1) ∧ wa.cell? ⟨w.heap.size + 1 + 1, 0, none⟩ = some (.slice a2 zs2.length c2) ∧ wa.cell? ⟨w.heap.size + 1 + 1, 1, none⟩ = some (.int .i64 b2) ∧ wa.cell? ⟨w5.heap.size, 0, none⟩ = some (.slice x0a zs0.length x0c) ∧ wa.cell? ⟨w5.heap.size, 1, none⟩ = some (.int .i64 b0) ∧ wa.cell? ⟨w7.heap.size, 0, none⟩ = some (.slice x1a zs1.length x1c) ∧ wa.cell? ⟨w7.heap.size, 1, none⟩ = some (.int .i64 b1) ∧ wa.cell? ⟨w9.heap.size, 0, none⟩ = some (.slice x2a zs2.length x2c) ∧ wa.cell? ⟨w9.heap.size, 1, none⟩ = some (.int .i64 b2) ∧ Below w13.heap.size w13 wa) → Calls Try.prog 18 #[.agg #[.slice a1 zs1.length c1, .int .i64 b1]] wa fun e w' => ∃ p q, e = .returned (.agg #[.slice p zs1.length q, .int .i64 b1]) ∧ ints.Reads .i64 w' p zs1 ∧ (w'.cell? ⟨w.heap.size, 0, none⟩ = some (.slice a0 zs0.length c0) ∧ w'.cell? ⟨w.heap.size, 1, none⟩ = some (.int .i64 b0) ∧ w'.cell? ⟨w.heap.size + 1, 0, none⟩ = some (.slice a1 zs1.length c1) ∧ w'.cell? ⟨w.heap.size + 1, 1, none⟩ = some (.int .i64 b1) ∧ w'.cell? ⟨w.heap.size + 1 + 1, 0, none⟩ = some (.slice a2 zs2.length c2) ∧ w'.cell? ⟨w.heap.size + 1 + 1, 1, none⟩ = some (.int .i64 b2) ∧ w'.cell? ⟨w5.heap.size, 0, none⟩ = some (.slice x0a zs0.length x0c) ∧ w'.cell? ⟨w5.heap.size, 1, none⟩ = some (.int .i64 b0) ∧ w'.cell? ⟨w7.heap.size, 0, none⟩ = some (.slice x1a zs1.length x1c) ∧ w'.cell? ⟨w7.heap.size, 1, none⟩ = some (.int .i64 b1) ∧ w'.cell? ⟨w9.heap.size, 0, none⟩ = some (.slice x2a zs2.length x2c) ∧ w'.cell? ⟨w9.heap.size, 1, none⟩ = some (.int .i64 b2) ∧ Below w13.heap.size w13 w') from fun wa hS => by
    have hz := hS.2.2.2.2.2.2.2.2.2.2.2.2.size
    refine (planefns.to_any a1 zs1 c1 b1 _ (HR1.out.below (HB13.out.trans (hS.2.2.2.2.2.2.2.2.2.2.2.2.mono (by omega)))) (by omega)).mono ?_
    rintro e w' ⟨v, rfl, ho, hb⟩
    obtain ⟨p, q, rfl, _, _, _⟩ := ho.slice
    exact ⟨p, q, rfl, ho.reads, cell_below hb hS.1 (by omega), cell_below hb hS.2.1 (by omega), cell_below hb hS.2.2.1 (by omega), cell_below hb hS.2.2.2.1 (by omega), cell_below hb hS.2.2.2.2.1 (by omega), cell_below hb hS.2.2.2.2.2.1 (by omega), cell_below hb hS.2.2.2.2.2.2.1 (by omega), cell_below hb hS.2.2.2.2.2.2.2.1 (by omega), cell_below hb hS.2.2.2.2.2.2.2.2.1 (by omega), cell_below hb hS.2.2.2.2.2.2.2.2.2.1 (by omega), cell_below hb hS.2.2.2.2.2.2.2.2.2.2.1 (by omega), cell_below hb hS.2.2.2.2.2.2.2.2.2.2.2.1 (by omega), hS.2.2.2.2.2.2.2.2.2.2.2.2.trans (hb.mono (by omega))⟩)
  have HT2 := Lib.hid (show ∀ (wa : World) (p : Option Addr) (q : Nat), (wa.cell? ⟨w.heap.size, 0, none⟩ = some (.slice a0 zs0.length c0) ∧ wa.cell? ⟨w.heap.size, 1, none⟩ = some (.int .i64 b0) ∧ wa.cell? ⟨w.heap.size + 1, 0, none⟩ = some (.slice a1 zs1.length c1) ∧ wa.cell? ⟨w.heap.size + 1, 1, none⟩ = some (.int .i64 b1) ∧ wa.cell? ⟨w.heap.size + 1 + 1, 0, none⟩ = some (.slice a2 zs2.length c2) ∧ wa.cell? ⟨w.heap.size + 1 + 1, 1, none⟩ = some (.int .i64 b2) ∧ wa.cell? ⟨w5.heap.size, 0, none⟩ = some (.slice x0a zs0.length x0c) ∧ wa.cell? ⟨w5.heap.size, 1, none⟩ = some (.int .i64 b0) ∧ wa.cell? ⟨w7.heap.size, 0, none⟩ = some (.slice x1a zs1.length x1c) ∧ wa.cell? ⟨w7.heap.size, 1, none⟩ = some (.int .i64 b1) ∧ wa.cell? ⟨w9.heap.size, 0, none⟩ = some (.slice x2a zs2.length x2c) ∧ wa.cell? ⟨w9.heap.size, 1, none⟩ = some (.int .i64 b2) ∧ Below w13.heap.size w13 wa) → ints.Reads .i64 wa p zs1 → Calls Try.prog 20 #[.agg #[.slice x1a zs1.length x1c, .int .i64 b1], .agg #[.slice p zs1.length q, .int .i64 b1]] wa fun e w' => e = .returned (.bool true) ∧ (w'.cell? ⟨w.heap.size, 0, none⟩ = some (.slice a0 zs0.length c0) ∧ w'.cell? ⟨w.heap.size, 1, none⟩ = some (.int .i64 b0) ∧ w'.cell? ⟨w.heap.size + 1, 0, none⟩ = some (.slice a1 zs1.length c1) ∧ w'.cell? ⟨w.heap.size + 1, 1, none⟩ = some (.int .i64 b1) ∧ w'.cell? ⟨w.heap.size + 1 + 1, 0, none⟩ = some (.slice a2 zs2.length c2) ∧ w'.cell? ⟨w.heap.size + 1 + 1, 1, none⟩ = some (.int .i64 b2) ∧ w'.cell? ⟨w5.heap.size, 0, none⟩ = some (.slice x0a zs0.length x0c) ∧ w'.cell? ⟨w5.heap.size, 1, none⟩ = some (.int .i64 b0) ∧ w'.cell? ⟨w7.heap.size, 0, none⟩ = some (.slice x1a zs1.length x1c) ∧ w'.cell? ⟨w7.heap.size, 1, none⟩ = some (.int .i64 b1) ∧ w'.cell? ⟨w9.heap.size, 0, none⟩ = some (.slice x2a zs2.length x2c) ∧ w'.cell? ⟨w9.heap.size, 1, none⟩ = some (.int .i64 b2) ∧ Below w13.heap.size w13 w') from fun wa p q hS k1 => by
    have hz := hS.2.2.2.2.2.2.2.2.2.2.2.2.size
    have ho := Ox1.out.below hS.2.2.2.2.2.2.2.2.2.2.2.2
    refine (planefns.eq_same _ _ zs1 _ _ b1 _ ho.reads k1 (by omega)).mono ?_
    rintro e w' ⟨rfl, hb⟩
    exact ⟨rfl, cell_below hb hS.1 (by omega), cell_below hb hS.2.1 (by omega), cell_below hb hS.2.2.1 (by omega), cell_below hb hS.2.2.2.1 (by omega), cell_below hb hS.2.2.2.2.1 (by omega), cell_below hb hS.2.2.2.2.2.1 (by omega), cell_below hb hS.2.2.2.2.2.2.1 (by omega), cell_below hb hS.2.2.2.2.2.2.2.1 (by omega), cell_below hb hS.2.2.2.2.2.2.2.2.1 (by omega), cell_below hb hS.2.2.2.2.2.2.2.2.2.1 (by omega), cell_below hb hS.2.2.2.2.2.2.2.2.2.2.1 (by omega), cell_below hb hS.2.2.2.2.2.2.2.2.2.2.2.1 (by omega), hS.2.2.2.2.2.2.2.2.2.2.2.2.trans (hb.mono (by omega))⟩)
  go_region_held3 (fun w' => w'.cell? ⟨w.heap.size, 0, none⟩ = some (.slice a0 zs0.length c0) ∧ w'.cell? ⟨w.heap.size, 1, none⟩ = some (.int .i64 b0) ∧ w'.cell? ⟨w.heap.size + 1, 0, none⟩ = some (.slice a1 zs1.length c1) ∧ w'.cell? ⟨w.heap.size + 1, 1, none⟩ = some (.int .i64 b1) ∧ w'.cell? ⟨w.heap.size + 1 + 1, 0, none⟩ = some (.slice a2 zs2.length c2) ∧ w'.cell? ⟨w.heap.size + 1 + 1, 1, none⟩ = some (.int .i64 b2) ∧ w'.cell? ⟨w5.heap.size, 0, none⟩ = some (.slice x0a zs0.length x0c) ∧ w'.cell? ⟨w5.heap.size, 1, none⟩ = some (.int .i64 b0) ∧ w'.cell? ⟨w7.heap.size, 0, none⟩ = some (.slice x1a zs1.length x1c) ∧ w'.cell? ⟨w7.heap.size, 1, none⟩ = some (.int .i64 b1) ∧ w'.cell? ⟨w9.heap.size, 0, none⟩ = some (.slice x2a zs2.length x2c) ∧ w'.cell? ⟨w9.heap.size, 1, none⟩ = some (.int .i64 b2) ∧ Below w13.heap.size w13 w') (first | assumption | exact ⟨x0_0, x0_1, x1_0, x1_1, x2_0, x2_1, p0_0, p0_1, p1_0, p1_1, p2_0, p2_1, Below.refl _ _⟩ | exact ⟨x0_0, x0_1, x1_0, x1_1, x2_0, x2_1, p0_0, p0_1, p1_0, p1_1, p2_0, p2_1, (Below.refl _ _).drew⟩) (first | (go_at_call 18; refine Calls.mono (HT1.out _ ?_) ?_; assumption; rintro e w' ⟨p, q, rfl, k1, hbx⟩) | (go_at_call 20; refine Calls.mono (HT2.out _ _ _ ?_ ?_) ?_; assumption; assumption; rintro e w14 ⟨rfl, hbx⟩))
  obtain ⟨_, _, _, _, _, _, _, _, _, _, _, _, hb⟩ := hbx
  have s14 : w13.heap.size ≤ w14.heap.size := hb.size
  have n14_0 : w.heap.size < w14.heap.size := by omega
  have n14_1 : w.heap.size + 1 < w14.heap.size := by omega
  have n14_2 : w.heap.size + 1 + 1 < w14.heap.size := by omega
  have n14_3 : w5.heap.size < w14.heap.size := by omega
  have n14_4 : w7.heap.size < w14.heap.size := by omega
  have n14_5 : w9.heap.size < w14.heap.size := by omega
  replace x0_0 := cell_below hb x0_0 (by omega)
  replace x0_1 := cell_below hb x0_1 (by omega)
  replace x1_0 := cell_below hb x1_0 (by omega)
  replace x1_1 := cell_below hb x1_1 (by omega)
  replace x2_0 := cell_below hb x2_0 (by omega)
  replace x2_1 := cell_below hb x2_1 (by omega)
  replace p0_0 := cell_below hb p0_0 (by omega)
  replace p0_1 := cell_below hb p0_1 (by omega)
  replace p1_0 := cell_below hb p1_0 (by omega)
  replace p1_1 := cell_below hb p1_1 (by omega)
  replace p2_0 := cell_below hb p2_0 (by omega)
  replace p2_1 := cell_below hb p2_1 (by omega)
  have HB14 := Lib.hid (HB13.out.trans (hb.mono (by omega)))
  replace Ox0 := Lib.hid (Ox0.out.below hb)
  replace Ox1 := Lib.hid (Ox1.out.below hb)
  replace Ox2 := Lib.hid (Ox2.out.below hb)
  replace Ox3 := Lib.hid (Ox3.out.below hb)
  clear hb
  clear HT1 HT2
  go_wp2_with fail
  have HT1 := Lib.hid (show ∀ wa : World, (wa.cell? ⟨w.heap.size, 0, none⟩ = some (.slice a0 zs0.length c0) ∧ wa.cell? ⟨w.heap.size, 1, none⟩ = some (.int .i64 b0) ∧ wa.cell? ⟨w.heap.size + 1, 0, none⟩ = some (.slice a1 zs1.length c1) ∧ wa.cell? ⟨w.heap.size + 1, 1, none⟩ = some (.int .i64 b1) ∧ wa.cell? ⟨w.heap.size + 1 + 1, 0, none⟩ = some (.slice a2 zs2.length c2) ∧ wa.cell? ⟨w.heap.size + 1 + 1, 1, none⟩ = some (.int .i64 b2) ∧ wa.cell? ⟨w5.heap.size, 0, none⟩ = some (.slice x0a zs0.length x0c) ∧ wa.cell? ⟨w5.heap.size, 1, none⟩ = some (.int .i64 b0) ∧ wa.cell? ⟨w7.heap.size, 0, none⟩ = some (.slice x1a zs1.length x1c) ∧ wa.cell? ⟨w7.heap.size, 1, none⟩ = some (.int .i64 b1) ∧ wa.cell? ⟨w9.heap.size, 0, none⟩ = some (.slice x2a zs2.length x2c) ∧ wa.cell? ⟨w9.heap.size, 1, none⟩ = some (.int .i64 b2) ∧ Below w14.heap.size w14 wa) → Calls Try.prog 18 #[.agg #[.slice a2 zs2.length c2, .int .i64 b2]] wa fun e w' => ∃ p q, e = .returned (.agg #[.slice p zs2.length q, .int .i64 b2]) ∧ ints.Reads .i64 w' p zs2 ∧ (w'.cell? ⟨w.heap.size, 0, none⟩ = some (.slice a0 zs0.length c0) ∧ w'.cell? ⟨w.heap.size, 1, none⟩ = some (.int .i64 b0) ∧ w'.cell? ⟨w.heap.size + 1, 0, none⟩ = some (.slice a1 zs1.length c1) ∧ w'.cell? ⟨w.heap.size + 1, 1, none⟩ = some (.int .i64 b1) ∧ w'.cell? ⟨w.heap.size + 1 + 1, 0, none⟩ = some (.slice a2 zs2.length c2) ∧ w'.cell? ⟨w.heap.size + 1 + 1, 1, none⟩ = some (.int .i64 b2) ∧ w'.cell? ⟨w5.heap.size, 0, none⟩ = some (.slice x0a zs0.length x0c) ∧ w'.cell? ⟨w5.heap.size, 1, none⟩ = some (.int .i64 b0) ∧ w'.cell? ⟨w7.heap.size, 0, none⟩ = some (.slice x1a zs1.length x1c) ∧ w'.cell? ⟨w7.heap.size, 1, none⟩ = some (.int .i64 b1) ∧ w'.cell? ⟨w9.heap.size, 0, none⟩ = some (.slice x2a zs2.length x2c) ∧ w'.cell? ⟨w9.heap.size, 1, none⟩ = some (.int .i64 b2) ∧ Below w14.heap.size w14 w') from fun wa hS => by
    have hz := hS.2.2.2.2.2.2.2.2.2.2.2.2.size
    refine (planefns.to_any a2 zs2 c2 b2 _ (HR2.out.below (HB14.out.trans (hS.2.2.2.2.2.2.2.2.2.2.2.2.mono (by omega)))) (by omega)).mono ?_
    rintro e w' ⟨v, rfl, ho, hb⟩
    obtain ⟨p, q, rfl, _, _, _⟩ := ho.slice
    exact ⟨p, q, rfl, ho.reads, cell_below hb hS.1 (by omega), cell_below hb hS.2.1 (by omega), cell_below hb hS.2.2.1 (by omega), cell_below hb hS.2.2.2.1 (by omega), cell_below hb hS.2.2.2.2.1 (by omega), cell_below hb hS.2.2.2.2.2.1 (by omega), cell_below hb hS.2.2.2.2.2.2.1 (by omega), cell_below hb hS.2.2.2.2.2.2.2.1 (by omega), cell_below hb hS.2.2.2.2.2.2.2.2.1 (by omega), cell_below hb hS.2.2.2.2.2.2.2.2.2.1 (by omega), cell_below hb hS.2.2.2.2.2.2.2.2.2.2.1 (by omega), cell_below hb hS.2.2.2.2.2.2.2.2.2.2.2.1 (by omega), hS.2.2.2.2.2.2.2.2.2.2.2.2.trans (hb.mono (by omega))⟩)
  have HT2 := Lib.hid (show ∀ (wa : World) (p : Option Addr) (q : Nat), (wa.cell? ⟨w.heap.size, 0, none⟩ = some (.slice a0 zs0.length c0) ∧ wa.cell? ⟨w.heap.size, 1, none⟩ = some (.int .i64 b0) ∧ wa.cell? ⟨w.heap.size + 1, 0, none⟩ = some (.slice a1 zs1.length c1) ∧ wa.cell? ⟨w.heap.size + 1, 1, none⟩ = some (.int .i64 b1) ∧ wa.cell? ⟨w.heap.size + 1 + 1, 0, none⟩ = some (.slice a2 zs2.length c2) ∧ wa.cell? ⟨w.heap.size + 1 + 1, 1, none⟩ = some (.int .i64 b2) ∧ wa.cell? ⟨w5.heap.size, 0, none⟩ = some (.slice x0a zs0.length x0c) ∧ wa.cell? ⟨w5.heap.size, 1, none⟩ = some (.int .i64 b0) ∧ wa.cell? ⟨w7.heap.size, 0, none⟩ = some (.slice x1a zs1.length x1c) ∧ wa.cell? ⟨w7.heap.size, 1, none⟩ = some (.int .i64 b1) ∧ wa.cell? ⟨w9.heap.size, 0, none⟩ = some (.slice x2a zs2.length x2c) ∧ wa.cell? ⟨w9.heap.size, 1, none⟩ = some (.int .i64 b2) ∧ Below w14.heap.size w14 wa) → ints.Reads .i64 wa p zs2 → Calls Try.prog 20 #[.agg #[.slice x2a zs2.length x2c, .int .i64 b2], .agg #[.slice p zs2.length q, .int .i64 b2]] wa fun e w' => e = .returned (.bool true) ∧ (w'.cell? ⟨w.heap.size, 0, none⟩ = some (.slice a0 zs0.length c0) ∧ w'.cell? ⟨w.heap.size, 1, none⟩ = some (.int .i64 b0) ∧ w'.cell? ⟨w.heap.size + 1, 0, none⟩ = some (.slice a1 zs1.length c1) ∧ w'.cell? ⟨w.heap.size + 1, 1, none⟩ = some (.int .i64 b1) ∧ w'.cell? ⟨w.heap.size + 1 + 1, 0, none⟩ = some (.slice a2 zs2.length c2) ∧ w'.cell? ⟨w.heap.size + 1 + 1, 1, none⟩ = some (.int .i64 b2) ∧ w'.cell? ⟨w5.heap.size, 0, none⟩ = some (.slice x0a zs0.length x0c) ∧ w'.cell? ⟨w5.heap.size, 1, none⟩ = some (.int .i64 b0) ∧ w'.cell? ⟨w7.heap.size, 0, none⟩ = some (.slice x1a zs1.length x1c) ∧ w'.cell? ⟨w7.heap.size, 1, none⟩ = some (.int .i64 b1) ∧ w'.cell? ⟨w9.heap.size, 0, none⟩ = some (.slice x2a zs2.length x2c) ∧ w'.cell? ⟨w9.heap.size, 1, none⟩ = some (.int .i64 b2) ∧ Below w14.heap.size w14 w') from fun wa p q hS k1 => by
    have hz := hS.2.2.2.2.2.2.2.2.2.2.2.2.size
    have ho := Ox2.out.below hS.2.2.2.2.2.2.2.2.2.2.2.2
    refine (planefns.eq_same _ _ zs2 _ _ b2 _ ho.reads k1 (by omega)).mono ?_
    rintro e w' ⟨rfl, hb⟩
    exact ⟨rfl, cell_below hb hS.1 (by omega), cell_below hb hS.2.1 (by omega), cell_below hb hS.2.2.1 (by omega), cell_below hb hS.2.2.2.1 (by omega), cell_below hb hS.2.2.2.2.1 (by omega), cell_below hb hS.2.2.2.2.2.1 (by omega), cell_below hb hS.2.2.2.2.2.2.1 (by omega), cell_below hb hS.2.2.2.2.2.2.2.1 (by omega), cell_below hb hS.2.2.2.2.2.2.2.2.1 (by omega), cell_below hb hS.2.2.2.2.2.2.2.2.2.1 (by omega), cell_below hb hS.2.2.2.2.2.2.2.2.2.2.1 (by omega), cell_below hb hS.2.2.2.2.2.2.2.2.2.2.2.1 (by omega), hS.2.2.2.2.2.2.2.2.2.2.2.2.trans (hb.mono (by omega))⟩)
  go_region_held3 (fun w' => w'.cell? ⟨w.heap.size, 0, none⟩ = some (.slice a0 zs0.length c0) ∧ w'.cell? ⟨w.heap.size, 1, none⟩ = some (.int .i64 b0) ∧ w'.cell? ⟨w.heap.size + 1, 0, none⟩ = some (.slice a1 zs1.length c1) ∧ w'.cell? ⟨w.heap.size + 1, 1, none⟩ = some (.int .i64 b1) ∧ w'.cell? ⟨w.heap.size + 1 + 1, 0, none⟩ = some (.slice a2 zs2.length c2) ∧ w'.cell? ⟨w.heap.size + 1 + 1, 1, none⟩ = some (.int .i64 b2) ∧ w'.cell? ⟨w5.heap.size, 0, none⟩ = some (.slice x0a zs0.length x0c) ∧ w'.cell? ⟨w5.heap.size, 1, none⟩ = some (.int .i64 b0) ∧ w'.cell? ⟨w7.heap.size, 0, none⟩ = some (.slice x1a zs1.length x1c) ∧ w'.cell? ⟨w7.heap.size, 1, none⟩ = some (.int .i64 b1) ∧ w'.cell? ⟨w9.heap.size, 0, none⟩ = some (.slice x2a zs2.length x2c) ∧ w'.cell? ⟨w9.heap.size, 1, none⟩ = some (.int .i64 b2) ∧ Below w14.heap.size w14 w') (first | assumption | exact ⟨x0_0, x0_1, x1_0, x1_1, x2_0, x2_1, p0_0, p0_1, p1_0, p1_1, p2_0, p2_1, Below.refl _ _⟩ | exact ⟨x0_0, x0_1, x1_0, x1_1, x2_0, x2_1, p0_0, p0_1, p1_0, p1_1, p2_0, p2_1, (Below.refl _ _).drew⟩) (first | (go_at_call 18; refine Calls.mono (HT1.out _ ?_) ?_; assumption; rintro e w' ⟨p, q, rfl, k1, hbx⟩) | (go_at_call 20; refine Calls.mono (HT2.out _ _ _ ?_ ?_) ?_; assumption; assumption; rintro e w15 ⟨rfl, hbx⟩))
  obtain ⟨_, _, _, _, _, _, _, _, _, _, _, _, hb⟩ := hbx
  have s15 : w14.heap.size ≤ w15.heap.size := hb.size
  have n15_0 : w.heap.size < w15.heap.size := by omega
  have n15_1 : w.heap.size + 1 < w15.heap.size := by omega
  have n15_2 : w.heap.size + 1 + 1 < w15.heap.size := by omega
  have n15_3 : w5.heap.size < w15.heap.size := by omega
  have n15_4 : w7.heap.size < w15.heap.size := by omega
  have n15_5 : w9.heap.size < w15.heap.size := by omega
  replace x0_0 := cell_below hb x0_0 (by omega)
  replace x0_1 := cell_below hb x0_1 (by omega)
  replace x1_0 := cell_below hb x1_0 (by omega)
  replace x1_1 := cell_below hb x1_1 (by omega)
  replace x2_0 := cell_below hb x2_0 (by omega)
  replace x2_1 := cell_below hb x2_1 (by omega)
  replace p0_0 := cell_below hb p0_0 (by omega)
  replace p0_1 := cell_below hb p0_1 (by omega)
  replace p1_0 := cell_below hb p1_0 (by omega)
  replace p1_1 := cell_below hb p1_1 (by omega)
  replace p2_0 := cell_below hb p2_0 (by omega)
  replace p2_1 := cell_below hb p2_1 (by omega)
  have HB15 := Lib.hid (HB14.out.trans (hb.mono (by omega)))
  replace Ox0 := Lib.hid (Ox0.out.below hb)
  replace Ox1 := Lib.hid (Ox1.out.below hb)
  replace Ox2 := Lib.hid (Ox2.out.below hb)
  replace Ox3 := Lib.hid (Ox3.out.below hb)
  clear hb
  clear HT1 HT2
  go_wp2_with fail
  refine (intfns.to_any a3 zs3 c3 _ (HR3.out.below HB15.out) (by omega)).mono ?_
  rintro e w16 ⟨v, rfl, ho, hb⟩
  obtain ⟨q3a, q3c, rfl, _, hcOq3, _⟩ := ho.slice
  have s16 : w15.heap.size ≤ w16.heap.size := hb.size
  have n16_0 : w.heap.size < w16.heap.size := by omega
  have n16_1 : w.heap.size + 1 < w16.heap.size := by omega
  have n16_2 : w.heap.size + 1 + 1 < w16.heap.size := by omega
  have n16_3 : w5.heap.size < w16.heap.size := by omega
  have n16_4 : w7.heap.size < w16.heap.size := by omega
  have n16_5 : w9.heap.size < w16.heap.size := by omega
  replace x0_0 := cell_below hb x0_0 (by omega)
  replace x0_1 := cell_below hb x0_1 (by omega)
  replace x1_0 := cell_below hb x1_0 (by omega)
  replace x1_1 := cell_below hb x1_1 (by omega)
  replace x2_0 := cell_below hb x2_0 (by omega)
  replace x2_1 := cell_below hb x2_1 (by omega)
  replace p0_0 := cell_below hb p0_0 (by omega)
  replace p0_1 := cell_below hb p0_1 (by omega)
  replace p1_0 := cell_below hb p1_0 (by omega)
  replace p1_1 := cell_below hb p1_1 (by omega)
  replace p2_0 := cell_below hb p2_0 (by omega)
  replace p2_1 := cell_below hb p2_1 (by omega)
  have HB16 := Lib.hid (HB15.out.trans (hb.mono (by omega)))
  replace Ox0 := Lib.hid (Ox0.out.below hb)
  replace Ox1 := Lib.hid (Ox1.out.below hb)
  replace Ox2 := Lib.hid (Ox2.out.below hb)
  replace Ox3 := Lib.hid (Ox3.out.below hb)
  clear hb
  have Oq3 := Lib.hid ho
  clear ho
  go_wp2_with fail
  refine (intfns.eq_same _ _ zs3 _ _ _ Ox3.out.reads Oq3.out.reads (by omega)).mono ?_
  rintro e w17 ⟨rfl, hb⟩
  have s17 : w16.heap.size ≤ w17.heap.size := hb.size
  have n17_0 : w.heap.size < w17.heap.size := by omega
  have n17_1 : w.heap.size + 1 < w17.heap.size := by omega
  have n17_2 : w.heap.size + 1 + 1 < w17.heap.size := by omega
  have n17_3 : w5.heap.size < w17.heap.size := by omega
  have n17_4 : w7.heap.size < w17.heap.size := by omega
  have n17_5 : w9.heap.size < w17.heap.size := by omega
  replace x0_0 := cell_below hb x0_0 (by omega)
  replace x0_1 := cell_below hb x0_1 (by omega)
  replace x1_0 := cell_below hb x1_0 (by omega)
  replace x1_1 := cell_below hb x1_1 (by omega)
  replace x2_0 := cell_below hb x2_0 (by omega)
  replace x2_1 := cell_below hb x2_1 (by omega)
  replace p0_0 := cell_below hb p0_0 (by omega)
  replace p0_1 := cell_below hb p0_1 (by omega)
  replace p1_0 := cell_below hb p1_0 (by omega)
  replace p1_1 := cell_below hb p1_1 (by omega)
  replace p2_0 := cell_below hb p2_0 (by omega)
  replace p2_1 := cell_below hb p2_1 (by omega)
  have HB17 := Lib.hid (HB16.out.trans (hb.mono (by omega)))
  replace Ox0 := Lib.hid (Ox0.out.below hb)
  replace Ox1 := Lib.hid (Ox1.out.below hb)
  replace Ox2 := Lib.hid (Ox2.out.below hb)
  replace Ox3 := Lib.hid (Ox3.out.below hb)
  replace Oq3 := Lib.hid (Oq3.out.below hb)
  clear hb
  clear Oq3
  go_wp2_with fail
  go_ret
  exact ⟨rfl, HB17.out⟩
end Go.Proofs.Ythohnnobahcdpaa.fnExactChoiceSidew
