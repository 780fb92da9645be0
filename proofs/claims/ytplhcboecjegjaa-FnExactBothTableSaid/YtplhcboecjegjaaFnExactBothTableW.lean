/- The walk of FnExactBothTable, from what the model's function and the program's return. -/
import Derived.Test.YtplhcboecjegjaaVoteFns
import Derived.Test.YtplhcboecjegjaaIntFns
import Derived.Test.YtplhcboecjegjaaOwnG
import Derived.Deep.RegionHeld3
namespace Go.Proofs.Ytplhcboecjegjaa.fnExactBothTablew
open Go.RowKit own
set_option linter.unusedVariables false
set_option linter.unusedSimpArgs false

set_option maxHeartbeats 1000000 in
theorem exit_sz0 (a0 : Option Addr) (zs0 : List Int) (c0 : Nat) (b0 : Int) (a1 : Option Addr) (zs1 : List Int) (c1 : Nat) (b1 : Int) (w : World) (hr0 : ints.Reads .i64 w a0 zs0) (hr1 : ints.Reads .i64 w a1 zs1) (hl0 : zs0.length ≤ 9223372036854775807) (hl1 : zs1.length ≤ 9223372036854775807)  (hx : 1048576 < (zs0.length : Int)) : Calls Try.prog 7 #[.agg #[.slice a0 zs0.length c0, .int .i64 b0], .agg #[.slice a1 zs1.length c1, .int .i64 b1]] w fun e w' => e = .returned (.bool true) ∧ Below w.heap.size w w' := by
  have HR0 := Lib.hid hr0
  have HR1 := Lib.hid hr1
  clear hr0 hr1
  go_enter Try.func7, Try.ntmps7
  go_wp2_with fail
  have x0_0 : (w.alloc (.cells #[.slice a0 zs0.length c0, .int .i64 b0] 24)).cell? ⟨w.heap.size, 0, none⟩ = some (.slice a0 zs0.length c0) := cell_new _ _ _ (by simp) rfl
  have x0_1 : (w.alloc (.cells #[.slice a0 zs0.length c0, .int .i64 b0] 24)).cell? ⟨w.heap.size, 1, none⟩ = some (.int .i64 b0) := cell_new _ _ _ (by simp) rfl
  have HB0 := Lib.hid (below_alloc w (.cells #[.slice a0 zs0.length c0, .int .i64 b0] 24))
  have s0_0 := size_alloc' w (.cells #[.slice a0 zs0.length c0, .int .i64 b0] 24)
  replace x0_0 := cell_old (.cells #[.slice a1 zs1.length c1, .int .i64 b1] 24) x0_0
  replace x0_1 := cell_old (.cells #[.slice a1 zs1.length c1, .int .i64 b1] 24) x0_1
  have x1_0 : ((w.alloc (.cells #[.slice a0 zs0.length c0, .int .i64 b0] 24)).alloc (.cells #[.slice a1 zs1.length c1, .int .i64 b1] 24)).cell? ⟨w.heap.size + 1, 0, none⟩ = some (.slice a1 zs1.length c1) := cell_new _ _ _ (by simp) rfl
  have x1_1 : ((w.alloc (.cells #[.slice a0 zs0.length c0, .int .i64 b0] 24)).alloc (.cells #[.slice a1 zs1.length c1, .int .i64 b1] 24)).cell? ⟨w.heap.size + 1, 1, none⟩ = some (.int .i64 b1) := cell_new _ _ _ (by simp) rfl
  replace HB0 := Lib.hid (HB0.out.alloc (by simp) (.cells #[.slice a1 zs1.length c1, .int .i64 b1] 24))
  have s0 : w.heap.size + 2 ≤ ((w.alloc (.cells #[.slice a0 zs0.length c0, .int .i64 b0] 24)).alloc (.cells #[.slice a1 zs1.length c1, .int .i64 b1] 24)).heap.size := by simp
  clear s0_0
  generalize hw : ((w.alloc (.cells #[.slice a0 zs0.length c0, .int .i64 b0] 24)).alloc (.cells #[.slice a1 zs1.length c1, .int .i64 b1] 24)) = w0 at *
  clear hw
  refine (votefns.sz_no _ _ _ _ _ _ (by omega) (by omega) (by omega) (by omega)).mono ?_
  rintro e w1 ⟨rfl, hb⟩
  have s1 : w0.heap.size ≤ w1.heap.size := hb.size
  have n1_0 : w.heap.size < w1.heap.size := by omega
  have n1_1 : w.heap.size + 1 < w1.heap.size := by omega
  replace x0_0 := cell_below hb x0_0 (by omega)
  replace x0_1 := cell_below hb x0_1 (by omega)
  replace x1_0 := cell_below hb x1_0 (by omega)
  replace x1_1 := cell_below hb x1_1 (by omega)
  have HB1 := Lib.hid (HB0.out.trans (hb.mono (by omega)))
  clear hb
  go_wp2_with fail
  go_ret
  exact ⟨rfl, HB1.out⟩

set_option maxHeartbeats 1000000 in
theorem exit_sz1 (a0 : Option Addr) (zs0 : List Int) (c0 : Nat) (b0 : Int) (a1 : Option Addr) (zs1 : List Int) (c1 : Nat) (b1 : Int) (w : World) (hr0 : ints.Reads .i64 w a0 zs0) (hr1 : ints.Reads .i64 w a1 zs1) (hl0 : zs0.length ≤ 9223372036854775807) (hl1 : zs1.length ≤ 9223372036854775807)  (hb : (zs0.length : Int) ≤ 1048576) (hx : 1048576 < (zs0.length : Int) + (zs1.length : Int)) : Calls Try.prog 7 #[.agg #[.slice a0 zs0.length c0, .int .i64 b0], .agg #[.slice a1 zs1.length c1, .int .i64 b1]] w fun e w' => e = .returned (.bool true) ∧ Below w.heap.size w w' := by
  have HR0 := Lib.hid hr0
  have HR1 := Lib.hid hr1
  clear hr0 hr1
  go_enter Try.func7, Try.ntmps7
  go_wp2_with fail
  have x0_0 : (w.alloc (.cells #[.slice a0 zs0.length c0, .int .i64 b0] 24)).cell? ⟨w.heap.size, 0, none⟩ = some (.slice a0 zs0.length c0) := cell_new _ _ _ (by simp) rfl
  have x0_1 : (w.alloc (.cells #[.slice a0 zs0.length c0, .int .i64 b0] 24)).cell? ⟨w.heap.size, 1, none⟩ = some (.int .i64 b0) := cell_new _ _ _ (by simp) rfl
  have HB0 := Lib.hid (below_alloc w (.cells #[.slice a0 zs0.length c0, .int .i64 b0] 24))
  have s0_0 := size_alloc' w (.cells #[.slice a0 zs0.length c0, .int .i64 b0] 24)
  replace x0_0 := cell_old (.cells #[.slice a1 zs1.length c1, .int .i64 b1] 24) x0_0
  replace x0_1 := cell_old (.cells #[.slice a1 zs1.length c1, .int .i64 b1] 24) x0_1
  have x1_0 : ((w.alloc (.cells #[.slice a0 zs0.length c0, .int .i64 b0] 24)).alloc (.cells #[.slice a1 zs1.length c1, .int .i64 b1] 24)).cell? ⟨w.heap.size + 1, 0, none⟩ = some (.slice a1 zs1.length c1) := cell_new _ _ _ (by simp) rfl
  have x1_1 : ((w.alloc (.cells #[.slice a0 zs0.length c0, .int .i64 b0] 24)).alloc (.cells #[.slice a1 zs1.length c1, .int .i64 b1] 24)).cell? ⟨w.heap.size + 1, 1, none⟩ = some (.int .i64 b1) := cell_new _ _ _ (by simp) rfl
  replace HB0 := Lib.hid (HB0.out.alloc (by simp) (.cells #[.slice a1 zs1.length c1, .int .i64 b1] 24))
  have s0 : w.heap.size + 2 ≤ ((w.alloc (.cells #[.slice a0 zs0.length c0, .int .i64 b0] 24)).alloc (.cells #[.slice a1 zs1.length c1, .int .i64 b1] 24)).heap.size := by simp
  clear s0_0
  generalize hw : ((w.alloc (.cells #[.slice a0 zs0.length c0, .int .i64 b0] 24)).alloc (.cells #[.slice a1 zs1.length c1, .int .i64 b1] 24)) = w0 at *
  clear hw
  refine (votefns.sz_yes _ _ _ _ _ _ (by omega) (by omega)).mono ?_
  rintro e w1 ⟨rfl, hb⟩
  have s1 : w0.heap.size ≤ w1.heap.size := hb.size
  have n1_0 : w.heap.size < w1.heap.size := by omega
  have n1_1 : w.heap.size + 1 < w1.heap.size := by omega
  replace x0_0 := cell_below hb x0_0 (by omega)
  replace x0_1 := cell_below hb x0_1 (by omega)
  replace x1_0 := cell_below hb x1_0 (by omega)
  replace x1_1 := cell_below hb x1_1 (by omega)
  have HB1 := Lib.hid (HB0.out.trans (hb.mono (by omega)))
  clear hb
  go_wp2_with fail
  refine (votefns.sz_no _ _ _ _ _ _ (by omega) (by omega) (by omega) (by omega)).mono ?_
  rintro e w2 ⟨rfl, hb⟩
  have s2 : w1.heap.size ≤ w2.heap.size := hb.size
  have n2_0 : w.heap.size < w2.heap.size := by omega
  have n2_1 : w.heap.size + 1 < w2.heap.size := by omega
  replace x0_0 := cell_below hb x0_0 (by omega)
  replace x0_1 := cell_below hb x0_1 (by omega)
  replace x1_0 := cell_below hb x1_0 (by omega)
  replace x1_1 := cell_below hb x1_1 (by omega)
  have HB2 := Lib.hid (HB1.out.trans (hb.mono (by omega)))
  clear hb
  go_wp2_with fail
  go_ret
  exact ⟨rfl, HB2.out⟩

theorem law_big (a0 : Option Addr) (zs0 : List Int) (c0 : Nat) (b0 : Int) (a1 : Option Addr) (zs1 : List Int) (c1 : Nat) (b1 : Int) (w : World) (hr0 : ints.Reads .i64 w a0 zs0) (hr1 : ints.Reads .i64 w a1 zs1) (hl0 : zs0.length ≤ 9223372036854775807) (hl1 : zs1.length ≤ 9223372036854775807) (hx : ¬ ((zs0.length : Int) + (zs1.length : Int) ≤ 1048576)) : Calls Try.prog 7 #[.agg #[.slice a0 zs0.length c0, .int .i64 b0], .agg #[.slice a1 zs1.length c1, .int .i64 b1]] w fun e w' => e = .returned (.bool true) ∧ Below w.heap.size w w' := by
  by_cases k0 : 1048576 < (zs0.length : Int)
  · exact exit_sz0 a0 zs0 c0 b0 a1 zs1 c1 b1 w hr0 hr1 hl0 hl1   k0
  by_cases k1 : 1048576 < (zs0.length : Int) + (zs1.length : Int)
  · exact exit_sz1 a0 zs0 c0 b0 a1 zs1 c1 b1 w hr0 hr1 hl0 hl1  (by omega) k1
  · exact absurd (by omega) hx

set_option maxRecDepth 100000 in
set_option maxHeartbeats 4000000 in
theorem law_small (a0 : Option Addr) (zs0 : List Int) (c0 : Nat) (b0 : Int) (a1 : Option Addr) (zs1 : List Int) (c1 : Nat) (b1 : Int) (r0 : List Int) (ok : Bool) (w : World) (hr0 : ints.Reads .i64 w a0 zs0) (hr1 : ints.Reads .i64 w a1 zs1) (h0 : (zs0.length : Int) + (zs1.length : Int) ≤ 1048576) (hz0 : r0.length ≤ 1048576)
    (HSpec : Hid (∀ (a0 : Option Addr) (c0 : Nat) (a1 : Option Addr) (c1 : Nat) (w : World), ints.Reads .i64 w a0 zs0 → ints.Reads .i64 w a1 zs1 → Calls Try.prog 33 #[.agg #[.slice a0 zs0.length c0, .int .i64 b0], .agg #[.slice a1 zs1.length c1, .int .i64 b1]] w (RetIB r0 ok w)))
    (HImpl : Hid (∀ (a0 : Option Addr) (c0 : Nat) (a1 : Option Addr) (c1 : Nat) (w : World), ints.Reads .i64 w a0 zs0 → ints.Reads .i64 w a1 zs1 → Calls Try.prog 34 #[.agg #[.slice a0 zs0.length c0, .int .i64 b0], .agg #[.slice a1 zs1.length c1, .int .i64 b1]] w (RetIB r0 ok w))) :
    Calls Try.prog 7 #[.agg #[.slice a0 zs0.length c0, .int .i64 b0], .agg #[.slice a1 zs1.length c1, .int .i64 b1]] w fun e w' => e = .returned (.bool true) ∧ Below w.heap.size w w' := by
  have HR0 := Lib.hid hr0
  have HR1 := Lib.hid hr1
  clear hr0 hr1
  go_enter Try.func7, Try.ntmps7
  go_wp2_with fail
  have x0_0 : (w.alloc (.cells #[.slice a0 zs0.length c0, .int .i64 b0] 24)).cell? ⟨w.heap.size, 0, none⟩ = some (.slice a0 zs0.length c0) := cell_new _ _ _ (by simp) rfl
  have x0_1 : (w.alloc (.cells #[.slice a0 zs0.length c0, .int .i64 b0] 24)).cell? ⟨w.heap.size, 1, none⟩ = some (.int .i64 b0) := cell_new _ _ _ (by simp) rfl
  have HB0 := Lib.hid (below_alloc w (.cells #[.slice a0 zs0.length c0, .int .i64 b0] 24))
  have s0_0 := size_alloc' w (.cells #[.slice a0 zs0.length c0, .int .i64 b0] 24)
  replace x0_0 := cell_old (.cells #[.slice a1 zs1.length c1, .int .i64 b1] 24) x0_0
  replace x0_1 := cell_old (.cells #[.slice a1 zs1.length c1, .int .i64 b1] 24) x0_1
  have x1_0 : ((w.alloc (.cells #[.slice a0 zs0.length c0, .int .i64 b0] 24)).alloc (.cells #[.slice a1 zs1.length c1, .int .i64 b1] 24)).cell? ⟨w.heap.size + 1, 0, none⟩ = some (.slice a1 zs1.length c1) := cell_new _ _ _ (by simp) rfl
  have x1_1 : ((w.alloc (.cells #[.slice a0 zs0.length c0, .int .i64 b0] 24)).alloc (.cells #[.slice a1 zs1.length c1, .int .i64 b1] 24)).cell? ⟨w.heap.size + 1, 1, none⟩ = some (.int .i64 b1) := cell_new _ _ _ (by simp) rfl
  replace HB0 := Lib.hid (HB0.out.alloc (by simp) (.cells #[.slice a1 zs1.length c1, .int .i64 b1] 24))
  have s0 : w.heap.size + 2 ≤ ((w.alloc (.cells #[.slice a0 zs0.length c0, .int .i64 b0] 24)).alloc (.cells #[.slice a1 zs1.length c1, .int .i64 b1] 24)).heap.size := by simp
  clear s0_0
  generalize hw : ((w.alloc (.cells #[.slice a0 zs0.length c0, .int .i64 b0] 24)).alloc (.cells #[.slice a1 zs1.length c1, .int .i64 b1] 24)) = w0 at *
  clear hw
  refine (votefns.sz_yes _ _ _ _ _ _ (by omega) (by omega)).mono ?_
  rintro e w1 ⟨rfl, hb⟩
  have s1 : w0.heap.size ≤ w1.heap.size := hb.size
  have n1_0 : w.heap.size < w1.heap.size := by omega
  have n1_1 : w.heap.size + 1 < w1.heap.size := by omega
  replace x0_0 := cell_below hb x0_0 (by omega)
  replace x0_1 := cell_below hb x0_1 (by omega)
  replace x1_0 := cell_below hb x1_0 (by omega)
  replace x1_1 := cell_below hb x1_1 (by omega)
  have HB1 := Lib.hid (HB0.out.trans (hb.mono (by omega)))
  clear hb
  go_wp2_with fail
  refine (votefns.sz_yes _ _ _ _ _ _ (by omega) (by omega)).mono ?_
  rintro e w2 ⟨rfl, hb⟩
  have s2 : w1.heap.size ≤ w2.heap.size := hb.size
  have n2_0 : w.heap.size < w2.heap.size := by omega
  have n2_1 : w.heap.size + 1 < w2.heap.size := by omega
  replace x0_0 := cell_below hb x0_0 (by omega)
  replace x0_1 := cell_below hb x0_1 (by omega)
  replace x1_0 := cell_below hb x1_0 (by omega)
  replace x1_1 := cell_below hb x1_1 (by omega)
  have HB2 := Lib.hid (HB1.out.trans (hb.mono (by omega)))
  clear hb
  go_wp2_with fail
  have HT1 := Lib.hid (show ∀ (wa : World) , (wa.cell? ⟨w.heap.size, 0, none⟩ = some (.slice a0 zs0.length c0) ∧ wa.cell? ⟨w.heap.size, 1, none⟩ = some (.int .i64 b0) ∧ wa.cell? ⟨w.heap.size + 1, 0, none⟩ = some (.slice a1 zs1.length c1) ∧ wa.cell? ⟨w.heap.size + 1, 1, none⟩ = some (.int .i64 b1) ∧ Below w2.heap.size w2 wa) → Calls Try.prog 17 #[.agg #[.slice a0 zs0.length c0, .int .i64 b0]] wa fun e w' => ∃ p0 q0, e = .returned (.agg #[.slice p0 zs0.length q0, .int .i64 b0]) ∧ ints.Reads .i64 w' p0 zs0 ∧ w'.cell? ⟨w.heap.size, 0, none⟩ = some (.slice a0 zs0.length c0) ∧ w'.cell? ⟨w.heap.size, 1, none⟩ = some (.int .i64 b0) ∧ w'.cell? ⟨w.heap.size + 1, 0, none⟩ = some (.slice a1 zs1.length c1) ∧ w'.cell? ⟨w.heap.size + 1, 1, none⟩ = some (.int .i64 b1) ∧ Below w2.heap.size w2 w' from fun wa  hS  => by
    have hz := hS.2.2.2.2.size
    refine (votefns.to_any a0 zs0 c0 b0 _ (HR0.out.below (HB2.out.trans (hS.2.2.2.2.mono (by omega)))) (by omega)).mono ?_
    rintro e w' ⟨v, rfl, ho, hb⟩
    obtain ⟨p0, q0, rfl, _, _, _⟩ := ho.slice
    exact ⟨p0, q0, rfl, ho.reads, cell_below hb hS.1 (by omega), cell_below hb hS.2.1 (by omega), cell_below hb hS.2.2.1 (by omega), cell_below hb hS.2.2.2.1 (by omega), hS.2.2.2.2.trans (hb.mono (by omega))⟩)
  have HT2 := Lib.hid (show ∀ (wa : World) (p0 : Option Addr), (wa.cell? ⟨w.heap.size, 0, none⟩ = some (.slice a0 zs0.length c0) ∧ wa.cell? ⟨w.heap.size, 1, none⟩ = some (.int .i64 b0) ∧ wa.cell? ⟨w.heap.size + 1, 0, none⟩ = some (.slice a1 zs1.length c1) ∧ wa.cell? ⟨w.heap.size + 1, 1, none⟩ = some (.int .i64 b1) ∧ Below w2.heap.size w2 wa) → ints.Reads .i64 wa p0 zs0 → Calls Try.prog 17 #[.agg #[.slice a1 zs1.length c1, .int .i64 b1]] wa fun e w' => ∃ p1 q1, e = .returned (.agg #[.slice p1 zs1.length q1, .int .i64 b1]) ∧ ints.Reads .i64 w' p1 zs1 ∧ ints.Reads .i64 w' p0 zs0 ∧ w'.cell? ⟨w.heap.size, 0, none⟩ = some (.slice a0 zs0.length c0) ∧ w'.cell? ⟨w.heap.size, 1, none⟩ = some (.int .i64 b0) ∧ w'.cell? ⟨w.heap.size + 1, 0, none⟩ = some (.slice a1 zs1.length c1) ∧ w'.cell? ⟨w.heap.size + 1, 1, none⟩ = some (.int .i64 b1) ∧ Below w2.heap.size w2 w' from fun wa p0 hS k0 => by
    have hz := hS.2.2.2.2.size
    refine (votefns.to_any a1 zs1 c1 b1 _ (HR1.out.below (HB2.out.trans (hS.2.2.2.2.mono (by omega)))) (by omega)).mono ?_
    rintro e w' ⟨v, rfl, ho, hb⟩
    obtain ⟨p1, q1, rfl, _, _, _⟩ := ho.slice
    exact ⟨p1, q1, rfl, ho.reads, k0.below hb, cell_below hb hS.1 (by omega), cell_below hb hS.2.1 (by omega), cell_below hb hS.2.2.1 (by omega), cell_below hb hS.2.2.2.1 (by omega), hS.2.2.2.2.trans (hb.mono (by omega))⟩)
  have HT3 := Lib.hid (show ∀ (wa : World) (p0 : Option Addr) (q0 : Nat) (p1 : Option Addr) (q1 : Nat), (wa.cell? ⟨w.heap.size, 0, none⟩ = some (.slice a0 zs0.length c0) ∧ wa.cell? ⟨w.heap.size, 1, none⟩ = some (.int .i64 b0) ∧ wa.cell? ⟨w.heap.size + 1, 0, none⟩ = some (.slice a1 zs1.length c1) ∧ wa.cell? ⟨w.heap.size + 1, 1, none⟩ = some (.int .i64 b1) ∧ Below w2.heap.size w2 wa) → ints.Reads .i64 wa p1 zs1 → ints.Reads .i64 wa p0 zs0 → Calls Try.prog 33 #[.agg #[.slice p0 zs0.length q0, .int .i64 b0], .agg #[.slice p1 zs1.length q1, .int .i64 b1]] wa fun e w' => ∃ va vc, e = .returned (.tuple #[.slice va r0.length vc, .bool ok]) ∧ OwnI w2.heap.size w'.heap.size w' (.slice va r0.length vc) r0 ∧ w'.cell? ⟨w.heap.size, 0, none⟩ = some (.slice a0 zs0.length c0) ∧ w'.cell? ⟨w.heap.size, 1, none⟩ = some (.int .i64 b0) ∧ w'.cell? ⟨w.heap.size + 1, 0, none⟩ = some (.slice a1 zs1.length c1) ∧ w'.cell? ⟨w.heap.size + 1, 1, none⟩ = some (.int .i64 b1) ∧ Below w2.heap.size w2 w' from fun wa p0 q0 p1 q1 hS k0 k1 => by
    have hz := hS.2.2.2.2.size
    refine (HSpec.out _ _ _ _ _ k1 k0).mono ?_
    rintro e w' ⟨v, rfl, ho, hb⟩
    obtain ⟨va, vc, rfl, _, _, _⟩ := ho.slice
    exact ⟨va, vc, rfl, ho.mono hz (Nat.le_refl _), cell_below hb hS.1 (by omega), cell_below hb hS.2.1 (by omega), cell_below hb hS.2.2.1 (by omega), cell_below hb hS.2.2.2.1 (by omega), hS.2.2.2.2.trans (hb.mono (by omega))⟩)
  go_region_held3 (fun w' => w'.cell? ⟨w.heap.size, 0, none⟩ = some (.slice a0 zs0.length c0) ∧ w'.cell? ⟨w.heap.size, 1, none⟩ = some (.int .i64 b0) ∧ w'.cell? ⟨w.heap.size + 1, 0, none⟩ = some (.slice a1 zs1.length c1) ∧ w'.cell? ⟨w.heap.size + 1, 1, none⟩ = some (.int .i64 b1) ∧ Below w2.heap.size w2 w') (first | assumption | exact ⟨x0_0, x0_1, x1_0, x1_1, Below.refl _ _⟩ | exact ⟨x0_0, x0_1, x1_0, x1_1, (Below.refl _ _).drew⟩) (first | (go_at_call_of 17 (Value.agg #[.slice a0 zs0.length c0, .int .i64 b0]); refine Calls.mono (HT1.out _  (by assumption)) ?_; rintro e w' ⟨p0, q0, rfl, m1_0, hbx⟩) | (go_at_call_of 17 (Value.agg #[.slice a1 zs1.length c1, .int .i64 b1]); refine Calls.mono (HT2.out _ _ (by assumption) (by assumption)) ?_; rintro e w' ⟨p1, q1, rfl, m2_0, m2_1, hbx⟩) | (go_at_call 33; refine Calls.mono (HT3.out _ _ _ _ _ (by assumption) (by assumption) (by assumption)) ?_; rintro e w3 ⟨va, vc, rfl, ho, hbx⟩))
  obtain ⟨_, _, _, _, hb⟩ := hbx
  have s3 : w2.heap.size ≤ w3.heap.size := hb.size
  have n3_0 : w.heap.size < w3.heap.size := by omega
  have n3_1 : w.heap.size + 1 < w3.heap.size := by omega
  replace x0_0 := cell_below hb x0_0 (by omega)
  replace x0_1 := cell_below hb x0_1 (by omega)
  replace x1_0 := cell_below hb x1_0 (by omega)
  replace x1_1 := cell_below hb x1_1 (by omega)
  have HB3 := Lib.hid (HB2.out.trans (hb.mono (by omega)))
  clear hb
  clear HT1 HT2 HT3
  have Ov := Lib.hid ho
  clear ho
  go_wp2_with fail
  refine (votefns.to_any a0 zs0 c0 b0 _ (HR0.out.below HB3.out) (by omega)).mono ?_
  rintro e w4 ⟨v, rfl, ho, hb⟩
  obtain ⟨x0a, x0c, rfl, _, _, _⟩ := ho.slice
  have s4 : w3.heap.size ≤ w4.heap.size := hb.size
  have n4_0 : w.heap.size < w4.heap.size := by omega
  have n4_1 : w.heap.size + 1 < w4.heap.size := by omega
  replace x0_0 := cell_below hb x0_0 (by omega)
  replace x0_1 := cell_below hb x0_1 (by omega)
  replace x1_0 := cell_below hb x1_0 (by omega)
  replace x1_1 := cell_below hb x1_1 (by omega)
  have HB4 := Lib.hid (HB3.out.trans (hb.mono (by omega)))
  replace Ov := Lib.hid (Ov.out.below hb)
  clear hb
  have Ox0 := Lib.hid ho
  clear ho
  go_wp2_with fail
  have p0_0 : (w4.alloc (.cells #[.slice x0a zs0.length x0c, .int .i64 b0] 29)).cell? ⟨w4.heap.size, 0, none⟩ = some (.slice x0a zs0.length x0c) := cell_new _ _ _ rfl rfl
  have p0_1 : (w4.alloc (.cells #[.slice x0a zs0.length x0c, .int .i64 b0] 29)).cell? ⟨w4.heap.size, 1, none⟩ = some (.int .i64 b0) := cell_new _ _ _ rfl rfl
  have hb := below_alloc w4 (.cells #[.slice x0a zs0.length x0c, .int .i64 b0] 29)
  have z5 := size_alloc' w4 (.cells #[.slice x0a zs0.length x0c, .int .i64 b0] 29)
  generalize hw : w4.alloc (.cells #[.slice x0a zs0.length x0c, .int .i64 b0] 29) = w5 at *
  clear hw
  have s5 : w4.heap.size ≤ w5.heap.size := hb.size
  have n5_0 : w.heap.size < w5.heap.size := by omega
  have n5_1 : w.heap.size + 1 < w5.heap.size := by omega
  replace x0_0 := cell_below hb x0_0 (by omega)
  replace x0_1 := cell_below hb x0_1 (by omega)
  replace x1_0 := cell_below hb x1_0 (by omega)
  replace x1_1 := cell_below hb x1_1 (by omega)
  have HB5 := Lib.hid (HB4.out.trans (hb.mono (by omega)))
  replace Ov := Lib.hid (Ov.out.below hb)
  replace Ox0 := Lib.hid (Ox0.out.below hb)
  clear hb
  refine (votefns.to_any a1 zs1 c1 b1 _ (HR1.out.below HB5.out) (by omega)).mono ?_
  rintro e w6 ⟨v, rfl, ho, hb⟩
  obtain ⟨x1a, x1c, rfl, _, _, _⟩ := ho.slice
  have s6 : w5.heap.size ≤ w6.heap.size := hb.size
  have n6_0 : w.heap.size < w6.heap.size := by omega
  have n6_1 : w.heap.size + 1 < w6.heap.size := by omega
  have n6_2 : w4.heap.size < w6.heap.size := by omega
  replace x0_0 := cell_below hb x0_0 (by omega)
  replace x0_1 := cell_below hb x0_1 (by omega)
  replace x1_0 := cell_below hb x1_0 (by omega)
  replace x1_1 := cell_below hb x1_1 (by omega)
  replace p0_0 := cell_below hb p0_0 (by omega)
  replace p0_1 := cell_below hb p0_1 (by omega)
  have HB6 := Lib.hid (HB5.out.trans (hb.mono (by omega)))
  replace Ov := Lib.hid (Ov.out.below hb)
  replace Ox0 := Lib.hid (Ox0.out.below hb)
  clear hb
  have Ox1 := Lib.hid ho
  clear ho
  go_wp2_with fail
  have p1_0 : (w6.alloc (.cells #[.slice x1a zs1.length x1c, .int .i64 b1] 29)).cell? ⟨w6.heap.size, 0, none⟩ = some (.slice x1a zs1.length x1c) := cell_new _ _ _ rfl rfl
  have p1_1 : (w6.alloc (.cells #[.slice x1a zs1.length x1c, .int .i64 b1] 29)).cell? ⟨w6.heap.size, 1, none⟩ = some (.int .i64 b1) := cell_new _ _ _ rfl rfl
  have hb := below_alloc w6 (.cells #[.slice x1a zs1.length x1c, .int .i64 b1] 29)
  have z7 := size_alloc' w6 (.cells #[.slice x1a zs1.length x1c, .int .i64 b1] 29)
  generalize hw : w6.alloc (.cells #[.slice x1a zs1.length x1c, .int .i64 b1] 29) = w7 at *
  clear hw
  have s7 : w6.heap.size ≤ w7.heap.size := hb.size
  have n7_0 : w.heap.size < w7.heap.size := by omega
  have n7_1 : w.heap.size + 1 < w7.heap.size := by omega
  have n7_2 : w4.heap.size < w7.heap.size := by omega
  replace x0_0 := cell_below hb x0_0 (by omega)
  replace x0_1 := cell_below hb x0_1 (by omega)
  replace x1_0 := cell_below hb x1_0 (by omega)
  replace x1_1 := cell_below hb x1_1 (by omega)
  replace p0_0 := cell_below hb p0_0 (by omega)
  replace p0_1 := cell_below hb p0_1 (by omega)
  have HB7 := Lib.hid (HB6.out.trans (hb.mono (by omega)))
  replace Ov := Lib.hid (Ov.out.below hb)
  replace Ox0 := Lib.hid (Ox0.out.below hb)
  replace Ox1 := Lib.hid (Ox1.out.below hb)
  clear hb
  refine (HImpl.out _ _ _ _ _ Ox0.out.reads Ox1.out.reads).mono ?_
  rintro e w8 ⟨v, rfl, ho, hb⟩
  obtain ⟨ga, gc, rfl, _, _, _⟩ := ho.slice
  have s8 : w7.heap.size ≤ w8.heap.size := hb.size
  have n8_0 : w.heap.size < w8.heap.size := by omega
  have n8_1 : w.heap.size + 1 < w8.heap.size := by omega
  have n8_2 : w4.heap.size < w8.heap.size := by omega
  have n8_3 : w6.heap.size < w8.heap.size := by omega
  replace x0_0 := cell_below hb x0_0 (by omega)
  replace x0_1 := cell_below hb x0_1 (by omega)
  replace x1_0 := cell_below hb x1_0 (by omega)
  replace x1_1 := cell_below hb x1_1 (by omega)
  replace p0_0 := cell_below hb p0_0 (by omega)
  replace p0_1 := cell_below hb p0_1 (by omega)
  replace p1_0 := cell_below hb p1_0 (by omega)
  replace p1_1 := cell_below hb p1_1 (by omega)
  have HB8 := Lib.hid (HB7.out.trans (hb.mono (by omega)))
  replace Ov := Lib.hid (Ov.out.below hb)
  replace Ox0 := Lib.hid (Ox0.out.below hb)
  replace Ox1 := Lib.hid (Ox1.out.below hb)
  clear hb
  have Og := Lib.hid ho
  clear ho
  go_wp2_with fail
  refine (intfns.eq_same _ _ r0 _ _ _ Og.out.reads Ov.out.reads (by omega)).mono ?_
  rintro e w9 ⟨rfl, hb⟩
  have s9 : w8.heap.size ≤ w9.heap.size := hb.size
  have n9_0 : w.heap.size < w9.heap.size := by omega
  have n9_1 : w.heap.size + 1 < w9.heap.size := by omega
  have n9_2 : w4.heap.size < w9.heap.size := by omega
  have n9_3 : w6.heap.size < w9.heap.size := by omega
  replace x0_0 := cell_below hb x0_0 (by omega)
  replace x0_1 := cell_below hb x0_1 (by omega)
  replace x1_0 := cell_below hb x1_0 (by omega)
  replace x1_1 := cell_below hb x1_1 (by omega)
  replace p0_0 := cell_below hb p0_0 (by omega)
  replace p0_1 := cell_below hb p0_1 (by omega)
  replace p1_0 := cell_below hb p1_0 (by omega)
  replace p1_1 := cell_below hb p1_1 (by omega)
  have HB9 := Lib.hid (HB8.out.trans (hb.mono (by omega)))
  replace Ov := Lib.hid (Ov.out.below hb)
  replace Ox0 := Lib.hid (Ox0.out.below hb)
  replace Ox1 := Lib.hid (Ox1.out.below hb)
  replace Og := Lib.hid (Og.out.below hb)
  clear hb
  go_wp2_with fail
  have HT1 := Lib.hid (show ∀ wa : World, (wa.cell? ⟨w.heap.size, 0, none⟩ = some (.slice a0 zs0.length c0) ∧ wa.cell? ⟨w.heap.size, 1, none⟩ = some (.int .i64 b0) ∧ wa.cell? ⟨w.heap.size + 1, 0, none⟩ = some (.slice a1 zs1.length c1) ∧ wa.cell? ⟨w.heap.size + 1, 1, none⟩ = some (.int .i64 b1) ∧ wa.cell? ⟨w4.heap.size, 0, none⟩ = some (.slice x0a zs0.length x0c) ∧ wa.cell? ⟨w4.heap.size, 1, none⟩ = some (.int .i64 b0) ∧ wa.cell? ⟨w6.heap.size, 0, none⟩ = some (.slice x1a zs1.length x1c) ∧ wa.cell? ⟨w6.heap.size, 1, none⟩ = some (.int .i64 b1) ∧ Below w9.heap.size w9 wa) → Calls Try.prog 17 #[.agg #[.slice a0 zs0.length c0, .int .i64 b0]] wa fun e w' => ∃ p q, e = .returned (.agg #[.slice p zs0.length q, .int .i64 b0]) ∧ ints.Reads .i64 w' p zs0 ∧ (w'.cell? ⟨w.heap.size, 0, none⟩ = some (.slice a0 zs0.length c0) ∧ w'.cell? ⟨w.heap.size, 1, none⟩ = some (.int .i64 b0) ∧ w'.cell? ⟨w.heap.size + 1, 0, none⟩ = some (.slice a1 zs1.length c1) ∧ w'.cell? ⟨w.heap.size + 1, 1, none⟩ = some (.int .i64 b1) ∧ w'.cell? ⟨w4.heap.size, 0, none⟩ = some (.slice x0a zs0.length x0c) ∧ w'.cell? ⟨w4.heap.size, 1, none⟩ = some (.int .i64 b0) ∧ w'.cell? ⟨w6.heap.size, 0, none⟩ = some (.slice x1a zs1.length x1c) ∧ w'.cell? ⟨w6.heap.size, 1, none⟩ = some (.int .i64 b1) ∧ Below w9.heap.size w9 w') from fun wa hS => by
    have hz := hS.2.2.2.2.2.2.2.2.size
    refine (votefns.to_any a0 zs0 c0 b0 _ (HR0.out.below (HB9.out.trans (hS.2.2.2.2.2.2.2.2.mono (by omega)))) (by omega)).mono ?_
    rintro e w' ⟨v, rfl, ho, hb⟩
    obtain ⟨p, q, rfl, _, _, _⟩ := ho.slice
    exact ⟨p, q, rfl, ho.reads, cell_below hb hS.1 (by omega), cell_below hb hS.2.1 (by omega), cell_below hb hS.2.2.1 (by omega), cell_below hb hS.2.2.2.1 (by omega), cell_below hb hS.2.2.2.2.1 (by omega), cell_below hb hS.2.2.2.2.2.1 (by omega), cell_below hb hS.2.2.2.2.2.2.1 (by omega), cell_below hb hS.2.2.2.2.2.2.2.1 (by omega), hS.2.2.2.2.2.2.2.2.trans (hb.mono (by omega))⟩)
  have HT2 := Lib.hid (show ∀ (wa : World) (p : Option Addr) (q : Nat), (wa.cell? ⟨w.heap.size, 0, none⟩ = some (.slice a0 zs0.length c0) ∧ wa.cell? ⟨w.heap.size, 1, none⟩ = some (.int .i64 b0) ∧ wa.cell? ⟨w.heap.size + 1, 0, none⟩ = some (.slice a1 zs1.length c1) ∧ wa.cell? ⟨w.heap.size + 1, 1, none⟩ = some (.int .i64 b1) ∧ wa.cell? ⟨w4.heap.size, 0, none⟩ = some (.slice x0a zs0.length x0c) ∧ wa.cell? ⟨w4.heap.size, 1, none⟩ = some (.int .i64 b0) ∧ wa.cell? ⟨w6.heap.size, 0, none⟩ = some (.slice x1a zs1.length x1c) ∧ wa.cell? ⟨w6.heap.size, 1, none⟩ = some (.int .i64 b1) ∧ Below w9.heap.size w9 wa) → ints.Reads .i64 wa p zs0 → Calls Try.prog 20 #[.agg #[.slice x0a zs0.length x0c, .int .i64 b0], .agg #[.slice p zs0.length q, .int .i64 b0]] wa fun e w' => e = .returned (.bool true) ∧ (w'.cell? ⟨w.heap.size, 0, none⟩ = some (.slice a0 zs0.length c0) ∧ w'.cell? ⟨w.heap.size, 1, none⟩ = some (.int .i64 b0) ∧ w'.cell? ⟨w.heap.size + 1, 0, none⟩ = some (.slice a1 zs1.length c1) ∧ w'.cell? ⟨w.heap.size + 1, 1, none⟩ = some (.int .i64 b1) ∧ w'.cell? ⟨w4.heap.size, 0, none⟩ = some (.slice x0a zs0.length x0c) ∧ w'.cell? ⟨w4.heap.size, 1, none⟩ = some (.int .i64 b0) ∧ w'.cell? ⟨w6.heap.size, 0, none⟩ = some (.slice x1a zs1.length x1c) ∧ w'.cell? ⟨w6.heap.size, 1, none⟩ = some (.int .i64 b1) ∧ Below w9.heap.size w9 w') from fun wa p q hS k1 => by
    have hz := hS.2.2.2.2.2.2.2.2.size
    have ho := Ox0.out.below hS.2.2.2.2.2.2.2.2
    refine (votefns.eq_same _ _ zs0 _ _ b0 _ ho.reads k1 (by omega)).mono ?_
    rintro e w' ⟨rfl, hb⟩
    exact ⟨rfl, cell_below hb hS.1 (by omega), cell_below hb hS.2.1 (by omega), cell_below hb hS.2.2.1 (by omega), cell_below hb hS.2.2.2.1 (by omega), cell_below hb hS.2.2.2.2.1 (by omega), cell_below hb hS.2.2.2.2.2.1 (by omega), cell_below hb hS.2.2.2.2.2.2.1 (by omega), cell_below hb hS.2.2.2.2.2.2.2.1 (by omega), hS.2.2.2.2.2.2.2.2.trans (hb.mono (by omega))⟩)
  go_region_held3 (fun w' => w'.cell? ⟨w.heap.size, 0, none⟩ = some (.slice a0 zs0.length c0) ∧ w'.cell? ⟨w.heap.size, 1, none⟩ = some (.int .i64 b0) ∧ w'.cell? ⟨w.heap.size + 1, 0, none⟩ = some (.slice a1 zs1.length c1) ∧ w'.cell? ⟨w.heap.size + 1, 1, none⟩ = some (.int .i64 b1) ∧ w'.cell? ⟨w4.heap.size, 0, none⟩ = some (.slice x0a zs0.length x0c) ∧ w'.cell? ⟨w4.heap.size, 1, none⟩ = some (.int .i64 b0) ∧ w'.cell? ⟨w6.heap.size, 0, none⟩ = some (.slice x1a zs1.length x1c) ∧ w'.cell? ⟨w6.heap.size, 1, none⟩ = some (.int .i64 b1) ∧ Below w9.heap.size w9 w') (first | assumption | exact ⟨x0_0, x0_1, x1_0, x1_1, p0_0, p0_1, p1_0, p1_1, Below.refl _ _⟩ | exact ⟨x0_0, x0_1, x1_0, x1_1, p0_0, p0_1, p1_0, p1_1, (Below.refl _ _).drew⟩) (first | (go_at_call 17; refine Calls.mono (HT1.out _ ?_) ?_; assumption; rintro e w' ⟨p, q, rfl, k1, hbx⟩) | (go_at_call 20; refine Calls.mono (HT2.out _ _ _ ?_ ?_) ?_; assumption; assumption; rintro e w10 ⟨rfl, hbx⟩))
  obtain ⟨_, _, _, _, _, _, _, _, hb⟩ := hbx
  have s10 : w9.heap.size ≤ w10.heap.size := hb.size
  have n10_0 : w.heap.size < w10.heap.size := by omega
  have n10_1 : w.heap.size + 1 < w10.heap.size := by omega
  have n10_2 : w4.heap.size < w10.heap.size := by omega
  have n10_3 : w6.heap.size < w10.heap.size := by omega
  replace x0_0 := cell_below hb x0_0 (by omega)
  replace x0_1 := cell_below hb x0_1 (by omega)
  replace x1_0 := cell_below hb x1_0 (by omega)
  replace x1_1 := cell_below hb x1_1 (by omega)
  replace p0_0 := cell_below hb p0_0 (by omega)
  replace p0_1 := cell_below hb p0_1 (by omega)
  replace p1_0 := cell_below hb p1_0 (by omega)
  replace p1_1 := cell_below hb p1_1 (by omega)
  have HB10 := Lib.hid (HB9.out.trans (hb.mono (by omega)))
  replace Ov := Lib.hid (Ov.out.below hb)
  replace Ox0 := Lib.hid (Ox0.out.below hb)
  replace Ox1 := Lib.hid (Ox1.out.below hb)
  replace Og := Lib.hid (Og.out.below hb)
  clear hb
  clear HT1 HT2
  go_wp2_with fail
  have HT1 := Lib.hid (show ∀ wa : World, (wa.cell? ⟨w.heap.size, 0, none⟩ = some (.slice a0 zs0.length c0) ∧ wa.cell? ⟨w.heap.size, 1, none⟩ = some (.int .i64 b0) ∧ wa.cell? ⟨w.heap.size + 1, 0, none⟩ = some (.slice a1 zs1.length c1) ∧ wa.cell? ⟨w.heap.size + 1, 1, none⟩ = some (.int .i64 b1) ∧ wa.cell? ⟨w4.heap.size, 0, none⟩ = some (.slice x0a zs0.length x0c) ∧ wa.cell? ⟨w4.heap.size, 1, none⟩ = some (.int .i64 b0) ∧ wa.cell? ⟨w6.heap.size, 0, none⟩ = some (.slice x1a zs1.length x1c) ∧ wa.cell? ⟨w6.heap.size, 1, none⟩ = some (.int .i64 b1) ∧ Below w10.heap.size w10 wa) → Calls Try.prog 17 #[.agg #[.slice a1 zs1.length c1, .int .i64 b1]] wa fun e w' => ∃ p q, e = .returned (.agg #[.slice p zs1.length q, .int .i64 b1]) ∧ ints.Reads .i64 w' p zs1 ∧ (w'.cell? ⟨w.heap.size, 0, none⟩ = some (.slice a0 zs0.length c0) ∧ w'.cell? ⟨w.heap.size, 1, none⟩ = some (.int .i64 b0) ∧ w'.cell? ⟨w.heap.size + 1, 0, none⟩ = some (.slice a1 zs1.length c1) ∧ w'.cell? ⟨w.heap.size + 1, 1, none⟩ = some (.int .i64 b1) ∧ w'.cell? ⟨w4.heap.size, 0, none⟩ = some (.slice x0a zs0.length x0c) ∧ w'.cell? ⟨w4.heap.size, 1, none⟩ = some (.int .i64 b0) ∧ w'.cell? ⟨w6.heap.size, 0, none⟩ = some (.slice x1a zs1.length x1c) ∧ w'.cell? ⟨w6.heap.size, 1, none⟩ = some (.int .i64 b1) ∧ Below w10.heap.size w10 w') from fun wa hS => by
    have hz := hS.2.2.2.2.2.2.2.2.size
    refine (votefns.to_any a1 zs1 c1 b1 _ (HR1.out.below (HB10.out.trans (hS.2.2.2.2.2.2.2.2.mono (by omega)))) (by omega)).mono ?_
    rintro e w' ⟨v, rfl, ho, hb⟩
    obtain ⟨p, q, rfl, _, _, _⟩ := ho.slice
    exact ⟨p, q, rfl, ho.reads, cell_below hb hS.1 (by omega), cell_below hb hS.2.1 (by omega), cell_below hb hS.2.2.1 (by omega), cell_below hb hS.2.2.2.1 (by omega), cell_below hb hS.2.2.2.2.1 (by omega), cell_below hb hS.2.2.2.2.2.1 (by omega), cell_below hb hS.2.2.2.2.2.2.1 (by omega), cell_below hb hS.2.2.2.2.2.2.2.1 (by omega), hS.2.2.2.2.2.2.2.2.trans (hb.mono (by omega))⟩)
  have HT2 := Lib.hid (show ∀ (wa : World) (p : Option Addr) (q : Nat), (wa.cell? ⟨w.heap.size, 0, none⟩ = some (.slice a0 zs0.length c0) ∧ wa.cell? ⟨w.heap.size, 1, none⟩ = some (.int .i64 b0) ∧ wa.cell? ⟨w.heap.size + 1, 0, none⟩ = some (.slice a1 zs1.length c1) ∧ wa.cell? ⟨w.heap.size + 1, 1, none⟩ = some (.int .i64 b1) ∧ wa.cell? ⟨w4.heap.size, 0, none⟩ = some (.slice x0a zs0.length x0c) ∧ wa.cell? ⟨w4.heap.size, 1, none⟩ = some (.int .i64 b0) ∧ wa.cell? ⟨w6.heap.size, 0, none⟩ = some (.slice x1a zs1.length x1c) ∧ wa.cell? ⟨w6.heap.size, 1, none⟩ = some (.int .i64 b1) ∧ Below w10.heap.size w10 wa) → ints.Reads .i64 wa p zs1 → Calls Try.prog 20 #[.agg #[.slice x1a zs1.length x1c, .int .i64 b1], .agg #[.slice p zs1.length q, .int .i64 b1]] wa fun e w' => e = .returned (.bool true) ∧ (w'.cell? ⟨w.heap.size, 0, none⟩ = some (.slice a0 zs0.length c0) ∧ w'.cell? ⟨w.heap.size, 1, none⟩ = some (.int .i64 b0) ∧ w'.cell? ⟨w.heap.size + 1, 0, none⟩ = some (.slice a1 zs1.length c1) ∧ w'.cell? ⟨w.heap.size + 1, 1, none⟩ = some (.int .i64 b1) ∧ w'.cell? ⟨w4.heap.size, 0, none⟩ = some (.slice x0a zs0.length x0c) ∧ w'.cell? ⟨w4.heap.size, 1, none⟩ = some (.int .i64 b0) ∧ w'.cell? ⟨w6.heap.size, 0, none⟩ = some (.slice x1a zs1.length x1c) ∧ w'.cell? ⟨w6.heap.size, 1, none⟩ = some (.int .i64 b1) ∧ Below w10.heap.size w10 w') from fun wa p q hS k1 => by
    have hz := hS.2.2.2.2.2.2.2.2.size
    have ho := Ox1.out.below hS.2.2.2.2.2.2.2.2
    refine (votefns.eq_same _ _ zs1 _ _ b1 _ ho.reads k1 (by omega)).mono ?_
    rintro e w' ⟨rfl, hb⟩
    exact ⟨rfl, cell_below hb hS.1 (by omega), cell_below hb hS.2.1 (by omega), cell_below hb hS.2.2.1 (by omega), cell_below hb hS.2.2.2.1 (by omega), cell_below hb hS.2.2.2.2.1 (by omega), cell_below hb hS.2.2.2.2.2.1 (by omega), cell_below hb hS.2.2.2.2.2.2.1 (by omega), cell_below hb hS.2.2.2.2.2.2.2.1 (by omega), hS.2.2.2.2.2.2.2.2.trans (hb.mono (by omega))⟩)
  go_region_held3 (fun w' => w'.cell? ⟨w.heap.size, 0, none⟩ = some (.slice a0 zs0.length c0) ∧ w'.cell? ⟨w.heap.size, 1, none⟩ = some (.int .i64 b0) ∧ w'.cell? ⟨w.heap.size + 1, 0, none⟩ = some (.slice a1 zs1.length c1) ∧ w'.cell? ⟨w.heap.size + 1, 1, none⟩ = some (.int .i64 b1) ∧ w'.cell? ⟨w4.heap.size, 0, none⟩ = some (.slice x0a zs0.length x0c) ∧ w'.cell? ⟨w4.heap.size, 1, none⟩ = some (.int .i64 b0) ∧ w'.cell? ⟨w6.heap.size, 0, none⟩ = some (.slice x1a zs1.length x1c) ∧ w'.cell? ⟨w6.heap.size, 1, none⟩ = some (.int .i64 b1) ∧ Below w10.heap.size w10 w') (first | assumption | exact ⟨x0_0, x0_1, x1_0, x1_1, p0_0, p0_1, p1_0, p1_1, Below.refl _ _⟩ | exact ⟨x0_0, x0_1, x1_0, x1_1, p0_0, p0_1, p1_0, p1_1, (Below.refl _ _).drew⟩) (first | (go_at_call 17; refine Calls.mono (HT1.out _ ?_) ?_; assumption; rintro e w' ⟨p, q, rfl, k1, hbx⟩) | (go_at_call 20; refine Calls.mono (HT2.out _ _ _ ?_ ?_) ?_; assumption; assumption; rintro e w11 ⟨rfl, hbx⟩))
  obtain ⟨_, _, _, _, _, _, _, _, hb⟩ := hbx
  have s11 : w10.heap.size ≤ w11.heap.size := hb.size
  have n11_0 : w.heap.size < w11.heap.size := by omega
  have n11_1 : w.heap.size + 1 < w11.heap.size := by omega
  have n11_2 : w4.heap.size < w11.heap.size := by omega
  have n11_3 : w6.heap.size < w11.heap.size := by omega
  replace x0_0 := cell_below hb x0_0 (by omega)
  replace x0_1 := cell_below hb x0_1 (by omega)
  replace x1_0 := cell_below hb x1_0 (by omega)
  replace x1_1 := cell_below hb x1_1 (by omega)
  replace p0_0 := cell_below hb p0_0 (by omega)
  replace p0_1 := cell_below hb p0_1 (by omega)
  replace p1_0 := cell_below hb p1_0 (by omega)
  replace p1_1 := cell_below hb p1_1 (by omega)
  have HB11 := Lib.hid (HB10.out.trans (hb.mono (by omega)))
  replace Ov := Lib.hid (Ov.out.below hb)
  replace Ox0 := Lib.hid (Ox0.out.below hb)
  replace Ox1 := Lib.hid (Ox1.out.below hb)
  replace Og := Lib.hid (Og.out.below hb)
  clear hb
  clear HT1 HT2
  go_wp2_with fail
  refine (votefns.mark_any (w3.heap.size) (w4.heap.size) _ _ zs0 b0 (1) _ Ox0.out (by omega)).mono ?_
  rintro e w12 ⟨rfl, ho, hb⟩
  have s12 : w11.heap.size ≤ w12.heap.size := hb.size
  have n12_0 : w.heap.size < w12.heap.size := by omega
  have n12_1 : w.heap.size + 1 < w12.heap.size := by omega
  have n12_2 : w4.heap.size < w12.heap.size := by omega
  have n12_3 : w6.heap.size < w12.heap.size := by omega
  replace x0_0 := hb.cell x0_0 (by omega) (by omega)
  replace x0_1 := hb.cell x0_1 (by omega) (by omega)
  replace x1_0 := hb.cell x1_0 (by omega) (by omega)
  replace x1_1 := hb.cell x1_1 (by omega) (by omega)
  replace p0_0 := hb.cell p0_0 (by omega) (by omega)
  replace p0_1 := hb.cell p0_1 (by omega) (by omega)
  replace p1_0 := hb.cell p1_0 (by omega) (by omega)
  replace p1_1 := hb.cell p1_1 (by omega) (by omega)
  have HB12 := Lib.hid (HB11.out.trans ((hb.below (by omega)).mono (by omega)))
  replace Ov := Lib.hid (Ov.out.only hb (by omega))
  replace Ox1 := Lib.hid (Ox1.out.only hb (by omega))
  replace Og := Lib.hid (Og.out.only hb (by omega))
  clear hb
  replace Ox0 := Lib.hid ho
  clear ho
  go_wp2_with fail
  refine (votefns.mark_any (w5.heap.size) (w6.heap.size) _ _ zs1 b1 (1 + zs0.length) _ Ox1.out (by omega)).mono ?_
  rintro e w13 ⟨rfl, ho, hb⟩
  have s13 : w12.heap.size ≤ w13.heap.size := hb.size
  have n13_0 : w.heap.size < w13.heap.size := by omega
  have n13_1 : w.heap.size + 1 < w13.heap.size := by omega
  have n13_2 : w4.heap.size < w13.heap.size := by omega
  have n13_3 : w6.heap.size < w13.heap.size := by omega
  replace x0_0 := hb.cell x0_0 (by omega) (by omega)
  replace x0_1 := hb.cell x0_1 (by omega) (by omega)
  replace x1_0 := hb.cell x1_0 (by omega) (by omega)
  replace x1_1 := hb.cell x1_1 (by omega) (by omega)
  replace p0_0 := hb.cell p0_0 (by omega) (by omega)
  replace p0_1 := hb.cell p0_1 (by omega) (by omega)
  replace p1_0 := hb.cell p1_0 (by omega) (by omega)
  replace p1_1 := hb.cell p1_1 (by omega) (by omega)
  have HB13 := Lib.hid (HB12.out.trans ((hb.below (by omega)).mono (by omega)))
  replace Ov := Lib.hid (Ov.out.only hb (by omega))
  replace Ox0 := Lib.hid (Ox0.out.only hb (by omega))
  replace Og := Lib.hid (Og.out.only hb (by omega))
  clear hb
  replace Ox1 := Lib.hid ho
  clear ho
  go_wp2_with fail
  refine (intfns.eq_same _ _ r0 _ _ _ Og.out.reads Ov.out.reads (by omega)).mono ?_
  rintro e w14 ⟨rfl, hb⟩
  have s14 : w13.heap.size ≤ w14.heap.size := hb.size
  have n14_0 : w.heap.size < w14.heap.size := by omega
  have n14_1 : w.heap.size + 1 < w14.heap.size := by omega
  have n14_2 : w4.heap.size < w14.heap.size := by omega
  have n14_3 : w6.heap.size < w14.heap.size := by omega
  replace x0_0 := cell_below hb x0_0 (by omega)
  replace x0_1 := cell_below hb x0_1 (by omega)
  replace x1_0 := cell_below hb x1_0 (by omega)
  replace x1_1 := cell_below hb x1_1 (by omega)
  replace p0_0 := cell_below hb p0_0 (by omega)
  replace p0_1 := cell_below hb p0_1 (by omega)
  replace p1_0 := cell_below hb p1_0 (by omega)
  replace p1_1 := cell_below hb p1_1 (by omega)
  have HB14 := Lib.hid (HB13.out.trans (hb.mono (by omega)))
  replace Ov := Lib.hid (Ov.out.below hb)
  replace Ox0 := Lib.hid (Ox0.out.below hb)
  replace Ox1 := Lib.hid (Ox1.out.below hb)
  replace Og := Lib.hid (Og.out.below hb)
  clear hb
  go_wp2_with fail
  clear Ox0
  clear Ox1
  refine (intfns.mark_any (w7.heap.size) (w8.heap.size) _ _ r0 (1) _ Og.out (by omega)).mono ?_
  rintro e w15 ⟨rfl, ho, hg⟩
  have hb : Only (w7.heap.size) (w8.heap.size) w14 w15 := Only.of_grown (hg _ rfl) fun g hg => ⟨(Og.out.lt hg).1, (Og.out.lt hg).2.1⟩
  clear hg
  have s15 : w14.heap.size ≤ w15.heap.size := hb.size
  have n15_0 : w.heap.size < w15.heap.size := by omega
  have n15_1 : w.heap.size + 1 < w15.heap.size := by omega
  have n15_2 : w4.heap.size < w15.heap.size := by omega
  have n15_3 : w6.heap.size < w15.heap.size := by omega
  replace x0_0 := hb.cell x0_0 (by omega) (by omega)
  replace x0_1 := hb.cell x0_1 (by omega) (by omega)
  replace x1_0 := hb.cell x1_0 (by omega) (by omega)
  replace x1_1 := hb.cell x1_1 (by omega) (by omega)
  replace p0_0 := hb.cell p0_0 (by omega) (by omega)
  replace p0_1 := hb.cell p0_1 (by omega) (by omega)
  replace p1_0 := hb.cell p1_0 (by omega) (by omega)
  replace p1_1 := hb.cell p1_1 (by omega) (by omega)
  have HB15 := Lib.hid (HB14.out.trans ((hb.below (by omega)).mono (by omega)))
  replace Ov := Lib.hid (Ov.out.only hb (by omega))
  clear hb
  replace Og := Lib.hid ho
  clear ho
  go_wp2_with fail
  refine (intfns.held_any _ _ r0.length (1) _ Og.out.reads (by omega)).mono ?_
  rintro e w16 ⟨rfl, hb⟩
  have s16 : w15.heap.size ≤ w16.heap.size := hb.size
  have n16_0 : w.heap.size < w16.heap.size := by omega
  have n16_1 : w.heap.size + 1 < w16.heap.size := by omega
  have n16_2 : w4.heap.size < w16.heap.size := by omega
  have n16_3 : w6.heap.size < w16.heap.size := by omega
  replace x0_0 := cell_below hb x0_0 (by omega)
  replace x0_1 := cell_below hb x0_1 (by omega)
  replace x1_0 := cell_below hb x1_0 (by omega)
  replace x1_1 := cell_below hb x1_1 (by omega)
  replace p0_0 := cell_below hb p0_0 (by omega)
  replace p0_1 := cell_below hb p0_1 (by omega)
  replace p1_0 := cell_below hb p1_0 (by omega)
  replace p1_1 := cell_below hb p1_1 (by omega)
  have HB16 := Lib.hid (HB15.out.trans (hb.mono (by omega)))
  replace Ov := Lib.hid (Ov.out.below hb)
  replace Og := Lib.hid (Og.out.below hb)
  clear hb
  go_wp2_with fail
  have HT1 := Lib.hid (show ∀ (wa : World) , (wa.cell? ⟨w.heap.size, 0, none⟩ = some (.slice a0 zs0.length c0) ∧ wa.cell? ⟨w.heap.size, 1, none⟩ = some (.int .i64 b0) ∧ wa.cell? ⟨w.heap.size + 1, 0, none⟩ = some (.slice a1 zs1.length c1) ∧ wa.cell? ⟨w.heap.size + 1, 1, none⟩ = some (.int .i64 b1) ∧ wa.cell? ⟨w4.heap.size, 0, none⟩ = some (.slice x0a zs0.length x0c) ∧ wa.cell? ⟨w4.heap.size, 1, none⟩ = some (.int .i64 b0) ∧ wa.cell? ⟨w6.heap.size, 0, none⟩ = some (.slice x1a zs1.length x1c) ∧ wa.cell? ⟨w6.heap.size, 1, none⟩ = some (.int .i64 b1) ∧ Below w16.heap.size w16 wa) → Calls Try.prog 17 #[.agg #[.slice a0 zs0.length c0, .int .i64 b0]] wa fun e w' => ∃ p0 q0, e = .returned (.agg #[.slice p0 zs0.length q0, .int .i64 b0]) ∧ ints.Reads .i64 w' p0 zs0 ∧ w'.cell? ⟨w.heap.size, 0, none⟩ = some (.slice a0 zs0.length c0) ∧ w'.cell? ⟨w.heap.size, 1, none⟩ = some (.int .i64 b0) ∧ w'.cell? ⟨w.heap.size + 1, 0, none⟩ = some (.slice a1 zs1.length c1) ∧ w'.cell? ⟨w.heap.size + 1, 1, none⟩ = some (.int .i64 b1) ∧ w'.cell? ⟨w4.heap.size, 0, none⟩ = some (.slice x0a zs0.length x0c) ∧ w'.cell? ⟨w4.heap.size, 1, none⟩ = some (.int .i64 b0) ∧ w'.cell? ⟨w6.heap.size, 0, none⟩ = some (.slice x1a zs1.length x1c) ∧ w'.cell? ⟨w6.heap.size, 1, none⟩ = some (.int .i64 b1) ∧ Below w16.heap.size w16 w' from fun wa  hS  => by
    have hz := hS.2.2.2.2.2.2.2.2.size
    refine (votefns.to_any a0 zs0 c0 b0 _ (HR0.out.below (HB16.out.trans (hS.2.2.2.2.2.2.2.2.mono (by omega)))) (by omega)).mono ?_
    rintro e w' ⟨v, rfl, ho, hb⟩
    obtain ⟨p0, q0, rfl, _, _, _⟩ := ho.slice
    exact ⟨p0, q0, rfl, ho.reads, cell_below hb hS.1 (by omega), cell_below hb hS.2.1 (by omega), cell_below hb hS.2.2.1 (by omega), cell_below hb hS.2.2.2.1 (by omega), cell_below hb hS.2.2.2.2.1 (by omega), cell_below hb hS.2.2.2.2.2.1 (by omega), cell_below hb hS.2.2.2.2.2.2.1 (by omega), cell_below hb hS.2.2.2.2.2.2.2.1 (by omega), hS.2.2.2.2.2.2.2.2.trans (hb.mono (by omega))⟩)
  have HT2 := Lib.hid (show ∀ (wa : World) (p0 : Option Addr), (wa.cell? ⟨w.heap.size, 0, none⟩ = some (.slice a0 zs0.length c0) ∧ wa.cell? ⟨w.heap.size, 1, none⟩ = some (.int .i64 b0) ∧ wa.cell? ⟨w.heap.size + 1, 0, none⟩ = some (.slice a1 zs1.length c1) ∧ wa.cell? ⟨w.heap.size + 1, 1, none⟩ = some (.int .i64 b1) ∧ wa.cell? ⟨w4.heap.size, 0, none⟩ = some (.slice x0a zs0.length x0c) ∧ wa.cell? ⟨w4.heap.size, 1, none⟩ = some (.int .i64 b0) ∧ wa.cell? ⟨w6.heap.size, 0, none⟩ = some (.slice x1a zs1.length x1c) ∧ wa.cell? ⟨w6.heap.size, 1, none⟩ = some (.int .i64 b1) ∧ Below w16.heap.size w16 wa) → ints.Reads .i64 wa p0 zs0 → Calls Try.prog 17 #[.agg #[.slice a1 zs1.length c1, .int .i64 b1]] wa fun e w' => ∃ p1 q1, e = .returned (.agg #[.slice p1 zs1.length q1, .int .i64 b1]) ∧ ints.Reads .i64 w' p1 zs1 ∧ ints.Reads .i64 w' p0 zs0 ∧ w'.cell? ⟨w.heap.size, 0, none⟩ = some (.slice a0 zs0.length c0) ∧ w'.cell? ⟨w.heap.size, 1, none⟩ = some (.int .i64 b0) ∧ w'.cell? ⟨w.heap.size + 1, 0, none⟩ = some (.slice a1 zs1.length c1) ∧ w'.cell? ⟨w.heap.size + 1, 1, none⟩ = some (.int .i64 b1) ∧ w'.cell? ⟨w4.heap.size, 0, none⟩ = some (.slice x0a zs0.length x0c) ∧ w'.cell? ⟨w4.heap.size, 1, none⟩ = some (.int .i64 b0) ∧ w'.cell? ⟨w6.heap.size, 0, none⟩ = some (.slice x1a zs1.length x1c) ∧ w'.cell? ⟨w6.heap.size, 1, none⟩ = some (.int .i64 b1) ∧ Below w16.heap.size w16 w' from fun wa p0 hS k0 => by
    have hz := hS.2.2.2.2.2.2.2.2.size
    refine (votefns.to_any a1 zs1 c1 b1 _ (HR1.out.below (HB16.out.trans (hS.2.2.2.2.2.2.2.2.mono (by omega)))) (by omega)).mono ?_
    rintro e w' ⟨v, rfl, ho, hb⟩
    obtain ⟨p1, q1, rfl, _, _, _⟩ := ho.slice
    exact ⟨p1, q1, rfl, ho.reads, k0.below hb, cell_below hb hS.1 (by omega), cell_below hb hS.2.1 (by omega), cell_below hb hS.2.2.1 (by omega), cell_below hb hS.2.2.2.1 (by omega), cell_below hb hS.2.2.2.2.1 (by omega), cell_below hb hS.2.2.2.2.2.1 (by omega), cell_below hb hS.2.2.2.2.2.2.1 (by omega), cell_below hb hS.2.2.2.2.2.2.2.1 (by omega), hS.2.2.2.2.2.2.2.2.trans (hb.mono (by omega))⟩)
  have HT3 := Lib.hid (show ∀ (wa : World) (p0 : Option Addr) (q0 : Nat) (p1 : Option Addr) (q1 : Nat), (wa.cell? ⟨w.heap.size, 0, none⟩ = some (.slice a0 zs0.length c0) ∧ wa.cell? ⟨w.heap.size, 1, none⟩ = some (.int .i64 b0) ∧ wa.cell? ⟨w.heap.size + 1, 0, none⟩ = some (.slice a1 zs1.length c1) ∧ wa.cell? ⟨w.heap.size + 1, 1, none⟩ = some (.int .i64 b1) ∧ wa.cell? ⟨w4.heap.size, 0, none⟩ = some (.slice x0a zs0.length x0c) ∧ wa.cell? ⟨w4.heap.size, 1, none⟩ = some (.int .i64 b0) ∧ wa.cell? ⟨w6.heap.size, 0, none⟩ = some (.slice x1a zs1.length x1c) ∧ wa.cell? ⟨w6.heap.size, 1, none⟩ = some (.int .i64 b1) ∧ Below w16.heap.size w16 wa) → ints.Reads .i64 wa p1 zs1 → ints.Reads .i64 wa p0 zs0 → Calls Try.prog 34 #[.agg #[.slice p0 zs0.length q0, .int .i64 b0], .agg #[.slice p1 zs1.length q1, .int .i64 b1]] wa fun e w' => ∃ ha hc, e = .returned (.tuple #[.slice ha r0.length hc, .bool ok]) ∧ OwnI w16.heap.size w'.heap.size w' (.slice ha r0.length hc) r0 ∧ w'.cell? ⟨w.heap.size, 0, none⟩ = some (.slice a0 zs0.length c0) ∧ w'.cell? ⟨w.heap.size, 1, none⟩ = some (.int .i64 b0) ∧ w'.cell? ⟨w.heap.size + 1, 0, none⟩ = some (.slice a1 zs1.length c1) ∧ w'.cell? ⟨w.heap.size + 1, 1, none⟩ = some (.int .i64 b1) ∧ w'.cell? ⟨w4.heap.size, 0, none⟩ = some (.slice x0a zs0.length x0c) ∧ w'.cell? ⟨w4.heap.size, 1, none⟩ = some (.int .i64 b0) ∧ w'.cell? ⟨w6.heap.size, 0, none⟩ = some (.slice x1a zs1.length x1c) ∧ w'.cell? ⟨w6.heap.size, 1, none⟩ = some (.int .i64 b1) ∧ Below w16.heap.size w16 w' from fun wa p0 q0 p1 q1 hS k0 k1 => by
    have hz := hS.2.2.2.2.2.2.2.2.size
    refine (HImpl.out _ _ _ _ _ k1 k0).mono ?_
    rintro e w' ⟨v, rfl, ho, hb⟩
    obtain ⟨ha, hc, rfl, _, _, _⟩ := ho.slice
    exact ⟨ha, hc, rfl, ho.mono hz (Nat.le_refl _), cell_below hb hS.1 (by omega), cell_below hb hS.2.1 (by omega), cell_below hb hS.2.2.1 (by omega), cell_below hb hS.2.2.2.1 (by omega), cell_below hb hS.2.2.2.2.1 (by omega), cell_below hb hS.2.2.2.2.2.1 (by omega), cell_below hb hS.2.2.2.2.2.2.1 (by omega), cell_below hb hS.2.2.2.2.2.2.2.1 (by omega), hS.2.2.2.2.2.2.2.2.trans (hb.mono (by omega))⟩)
  go_region_held3 (fun w' => w'.cell? ⟨w.heap.size, 0, none⟩ = some (.slice a0 zs0.length c0) ∧ w'.cell? ⟨w.heap.size, 1, none⟩ = some (.int .i64 b0) ∧ w'.cell? ⟨w.heap.size + 1, 0, none⟩ = some (.slice a1 zs1.length c1) ∧ w'.cell? ⟨w.heap.size + 1, 1, none⟩ = some (.int .i64 b1) ∧ w'.cell? ⟨w4.heap.size, 0, none⟩ = some (.slice x0a zs0.length x0c) ∧ w'.cell? ⟨w4.heap.size, 1, none⟩ = some (.int .i64 b0) ∧ w'.cell? ⟨w6.heap.size, 0, none⟩ = some (.slice x1a zs1.length x1c) ∧ w'.cell? ⟨w6.heap.size, 1, none⟩ = some (.int .i64 b1) ∧ Below w16.heap.size w16 w') (first | assumption | exact ⟨x0_0, x0_1, x1_0, x1_1, p0_0, p0_1, p1_0, p1_1, Below.refl _ _⟩ | exact ⟨x0_0, x0_1, x1_0, x1_1, p0_0, p0_1, p1_0, p1_1, (Below.refl _ _).drew⟩) (first | (go_at_call_of 17 (Value.agg #[.slice a0 zs0.length c0, .int .i64 b0]); refine Calls.mono (HT1.out _  (by assumption)) ?_; rintro e w' ⟨p0, q0, rfl, m1_0, hbx⟩) | (go_at_call_of 17 (Value.agg #[.slice a1 zs1.length c1, .int .i64 b1]); refine Calls.mono (HT2.out _ _ (by assumption) (by assumption)) ?_; rintro e w' ⟨p1, q1, rfl, m2_0, m2_1, hbx⟩) | (go_at_call 34; refine Calls.mono (HT3.out _ _ _ _ _ (by assumption) (by assumption) (by assumption)) ?_; rintro e w17 ⟨ha, hc, rfl, ho, hbx⟩))
  obtain ⟨_, _, _, _, _, _, _, _, hb⟩ := hbx
  have s17 : w16.heap.size ≤ w17.heap.size := hb.size
  have n17_0 : w.heap.size < w17.heap.size := by omega
  have n17_1 : w.heap.size + 1 < w17.heap.size := by omega
  have n17_2 : w4.heap.size < w17.heap.size := by omega
  have n17_3 : w6.heap.size < w17.heap.size := by omega
  replace x0_0 := cell_below hb x0_0 (by omega)
  replace x0_1 := cell_below hb x0_1 (by omega)
  replace x1_0 := cell_below hb x1_0 (by omega)
  replace x1_1 := cell_below hb x1_1 (by omega)
  replace p0_0 := cell_below hb p0_0 (by omega)
  replace p0_1 := cell_below hb p0_1 (by omega)
  replace p1_0 := cell_below hb p1_0 (by omega)
  replace p1_1 := cell_below hb p1_1 (by omega)
  have HB17 := Lib.hid (HB16.out.trans (hb.mono (by omega)))
  replace Ov := Lib.hid (Ov.out.below hb)
  replace Og := Lib.hid (Og.out.below hb)
  clear hb
  clear HT1 HT2 HT3
  have Oh := Lib.hid ho
  clear ho
  go_wp2_with fail
  refine (intfns.eq_same _ _ r0 _ _ _ Oh.out.reads Ov.out.reads (by omega)).mono ?_
  rintro e w18 ⟨rfl, hb⟩
  have s18 : w17.heap.size ≤ w18.heap.size := hb.size
  have n18_0 : w.heap.size < w18.heap.size := by omega
  have n18_1 : w.heap.size + 1 < w18.heap.size := by omega
  have n18_2 : w4.heap.size < w18.heap.size := by omega
  have n18_3 : w6.heap.size < w18.heap.size := by omega
  replace x0_0 := cell_below hb x0_0 (by omega)
  replace x0_1 := cell_below hb x0_1 (by omega)
  replace x1_0 := cell_below hb x1_0 (by omega)
  replace x1_1 := cell_below hb x1_1 (by omega)
  replace p0_0 := cell_below hb p0_0 (by omega)
  replace p0_1 := cell_below hb p0_1 (by omega)
  replace p1_0 := cell_below hb p1_0 (by omega)
  replace p1_1 := cell_below hb p1_1 (by omega)
  have HB18 := Lib.hid (HB17.out.trans (hb.mono (by omega)))
  replace Ov := Lib.hid (Ov.out.below hb)
  replace Og := Lib.hid (Og.out.below hb)
  replace Oh := Lib.hid (Oh.out.below hb)
  clear hb
  go_wp2_with fail
  refine (intfns.held_any _ _ r0.length (1) _ Og.out.reads (by omega)).mono ?_
  rintro e w19 ⟨rfl, hb⟩
  have s19 : w18.heap.size ≤ w19.heap.size := hb.size
  have n19_0 : w.heap.size < w19.heap.size := by omega
  have n19_1 : w.heap.size + 1 < w19.heap.size := by omega
  have n19_2 : w4.heap.size < w19.heap.size := by omega
  have n19_3 : w6.heap.size < w19.heap.size := by omega
  replace x0_0 := cell_below hb x0_0 (by omega)
  replace x0_1 := cell_below hb x0_1 (by omega)
  replace x1_0 := cell_below hb x1_0 (by omega)
  replace x1_1 := cell_below hb x1_1 (by omega)
  replace p0_0 := cell_below hb p0_0 (by omega)
  replace p0_1 := cell_below hb p0_1 (by omega)
  replace p1_0 := cell_below hb p1_0 (by omega)
  replace p1_1 := cell_below hb p1_1 (by omega)
  have HB19 := Lib.hid (HB18.out.trans (hb.mono (by omega)))
  replace Ov := Lib.hid (Ov.out.below hb)
  replace Og := Lib.hid (Og.out.below hb)
  replace Oh := Lib.hid (Oh.out.below hb)
  clear hb
  go_wp2_with fail
  go_ret
  exact ⟨rfl, HB19.out⟩
end Go.Proofs.Ytplhcboecjegjaa.fnExactBothTablew
