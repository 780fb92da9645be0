/- The walks of the test for both labels, and of WidthOf: the model's and the program's. -/
import Derived.Test.YtkbcofgigfnfaaaEnds
import Derived.Test.YtkbcofgigfnfaaaHas
import Derived.Test.YtkbcofgigfnfaaaOwn1
namespace Go.Proofs.Ytkbcofgigfnfaaa.width
open Go.RowKit own pp nums samplesv samplest dots both sides margin most ends has
set_option linter.unusedVariables false
set_option linter.unusedSimpArgs false
attribute [local go_sem ↓] Go.wp_at_zero Go.wp_at_succ

/-- A sample with points of both labels. -/
def mixB (rows : List (List Int)) (zs : List Int) : Bool := sampleB rows zs && hasB zs 1 && hasB zs (-1)
theorem mixB_iff (rows : List (List Int)) (zs : List Int) : mixB rows zs = true ↔ sampleB rows zs = true ∧ hasB zs 1 = true ∧ hasB zs (-1) = true := by simp [mixB, and_assoc]
/-- Weights for it, and their width. -/
def wiB (rows : List (List Int)) (zs ws : List Int) : Bool := mixB rows zs && (decide (ws.length = (rows.getD 0 []).length) && numsB 99 ws)
theorem wiB_iff (rows : List (List Int)) (zs ws : List Int) : wiB rows zs ws = true ↔ mixB rows zs = true ∧ ws.length = (rows.getD 0 []).length ∧ numsB 99 ws = true := by simp [wiB, and_assoc]
def width (rows : List (List Int)) (zs ws : List Int) : Int := lowTo rows zs ws 100000 rows.length - highTo rows zs ws (-100000) rows.length
theorem mix_pos {rows : List (List Int)} {zs : List Int} (h : mixB rows zs = true) : 0 < rows.length := by
  obtain ⟨h1, h2, h3⟩ := (mixB_iff _ _).1 h
  obtain ⟨k, hk, _⟩ := hasB_ex h2
  have := ((sampleB_iff _ _).1 h1).2.1
  omega
theorem fits_of {rows : List (List Int)} {zs ws : List Int} (h : sampleB rows zs = true) (hl : ws.length = (rows.getD 0 []).length) (hw : numsB 99 ws = true) : RowsFit rows ws ∧ DotBd rows zs ws := by
  obtain ⟨s1, s2, s3, s4⟩ := (sampleB_iff _ _).1 h
  have hr : ∀ k, k < rows.length → pointB (rows.getD k []) = true ∧ (rows.getD k []).length = ws.length := by
    intro k hk
    have := all_at _ [] rows s4 k hk
    simp only [Bool.and_eq_true, decide_eq_true_eq] at this
    exact ⟨this.1, by omega⟩
  constructor
  · intro k hk
    obtain ⟨a, b⟩ := hr k hk
    exact ⟨b, small_of hw ((pointB_iff _).1 a).2.2 (by decide) (by omega)⟩
  · intro k hk
    obtain ⟨a, b⟩ := hr k hk
    have p := (pointB_iff _).1 a
    refine ⟨dot_bd4 hw p.2.2 (by omega) (by omega), ?_⟩
    have := all_at _ 0 zs s3 k (by omega)
    exact (labelB_iff _).1 this
theorem ends_eq {rows : List (List Int)} {zs ws : List Int} (hm : mixB rows zs = true) (hD : DotBd rows zs ws) :
    lowTo rows zs ws 9223372036854775807 rows.length = lowTo rows zs ws 100000 rows.length ∧ highTo rows zs ws (-9223372036854775808) rows.length = highTo rows zs ws (-100000) rows.length ∧
      (-3564 ≤ lowTo rows zs ws 100000 rows.length ∧ lowTo rows zs ws 100000 rows.length ≤ 3564) ∧ -3564 ≤ highTo rows zs ws (-100000) rows.length ∧ highTo rows zs ws (-100000) rows.length ≤ 3564 := by
  obtain ⟨h1, h2, h3⟩ := (mixB_iff _ _).1 hm
  have hl := ((sampleB_iff _ _).1 h1).2.1
  obtain ⟨i, hi, ei⟩ := hasB_ex h2
  obtain ⟨j, hj, ej⟩ := hasB_ex h3
  have hb := fun k hk => (hD k hk).1
  have a := low_eq rows zs ws 100000 9223372036854775807 (by decide) (by decide) rows.length hb
  have b := high_eq rows zs ws (-100000) (-9223372036854775808) (by decide) (by decide) rows.length hb
  have c := low_bd rows zs ws 100000 (by decide) rows.length hb
  have d := high_bd rows zs ws (-100000) (by decide) rows.length hb
  have a2 := a.resolve_left fun h => h.1 i (by omega) ei
  have b2 := b.resolve_left fun h => by have := h.1 j (by omega); omega
  omega

theorem contains_any (a : Option Addr) (zs : List Int) (c : Nat) (n : Int) (w : World) (hr : ints.Reads .i64 w a zs) (hn : zs.length ≤ 1048576) (h0 : 0 < zs.length) (ok : Bool) (h : Hid (hasB zs n = ok)) :
    Calls Try.prog 128 #[.slice a zs.length c, .int .i64 n] w (Says ok w) := by
  obtain ⟨b, off, rfl, hb, hc⟩ := own1.reads_pos hr h0
  refine (Try.slices_Contains_int b off zs.length c zs n w (Nat.le_refl _) (by omega) hc).mono ?_
  rintro e w' ⟨rfl, hw⟩
  rw [List.take_length]
  exact ⟨congrArg (fun b => Ending.returned (.bool b)) h.out, hw.symm⟩
set_option maxRecDepth 100000 in
set_option maxHeartbeats 4000000 in
theorem spec_mixed (a : Option Addr) (rows : List (List Int)) (c : Nat) (a' : Option Addr) (zs : List Int) (c' : Nat) (w : World) (hr : grid.Reads w a rows) (hz : ints.Reads .i64 w a' zs) (hn : rows.length ≤ 1048576) (hk : zs.length ≤ 1048576) (hm : ∀ r ∈ rows, r.length ≤ 1048576) (ok : Bool) (h : Hid (mixB rows zs = ok)) :
    Calls Try.prog 87 #[.agg #[.slice a rows.length c, .slice a' zs.length c']] w (RetB ok w) := by
  have HMM := Lib.hid hm
  clear hm
  cases hs : sampleB rows zs
  · have e : ok = false := by rw [← h.out]; simp [mixB, hs]
    have HS := Lib.hid hs
    clear h hs
    subst e
    have Hhr := Lib.hid hr
    have Hhz := Lib.hid hz
    clear hr hz
    go_enter Try.func87, Try.ntmps87
    go_wp2_with fail
    have x0_0 : (w.alloc (.cells #[.slice a rows.length c, .slice a' zs.length c'] 29)).cell? ⟨w.heap.size, 0, none⟩ = some (.slice a rows.length c) := cell_new _ _ _ (by simp) rfl
    have x0_1 : (w.alloc (.cells #[.slice a rows.length c, .slice a' zs.length c'] 29)).cell? ⟨w.heap.size, 1, none⟩ = some (.slice a' zs.length c') := cell_new _ _ _ (by simp) rfl
    have HB0 := Lib.hid (below_alloc w (.cells #[.slice a rows.length c, .slice a' zs.length c'] 29))
    have s0 : w.heap.size + 1 ≤ (w.alloc (.cells #[.slice a rows.length c, .slice a' zs.length c'] 29)).heap.size := by simp
    generalize hw : (w.alloc (.cells #[.slice a rows.length c, .slice a' zs.length c'] 29)) = w0 at *
    clear hw
    have n0_0 : w.heap.size < w0.heap.size := by omega
    refine (spec_sample a rows c a' zs c' _ (Hhr.out.below HB0.out) (Hhz.out.below HB0.out) hn hk HMM.out false HS).mono ?_
    rintro e w1 ⟨rfl, hb⟩
    have s1 : w0.heap.size ≤ w1.heap.size := hb.size
    have n1_0 : w.heap.size < w1.heap.size := by omega
    replace x0_0 := cell_below hb x0_0 (by omega)
    replace x0_1 := cell_below hb x0_1 (by omega)
    have HB1 := Lib.hid (HB0.out.trans (hb.mono (by omega)))
    clear hb
    go_wp2_with fail
    go_ret
    exact ⟨rfl, HB1.out⟩
  cases h1 : hasB zs 1
  · have e : ok = false := by rw [← h.out]; simp [mixB, h1]
    have HS := Lib.hid hs
    have H1 := Lib.hid h1
    clear h hs h1
    subst e
    have Hhr := Lib.hid hr
    have Hhz := Lib.hid hz
    clear hr hz
    go_enter Try.func87, Try.ntmps87
    go_wp2_with fail
    have x0_0 : (w.alloc (.cells #[.slice a rows.length c, .slice a' zs.length c'] 29)).cell? ⟨w.heap.size, 0, none⟩ = some (.slice a rows.length c) := cell_new _ _ _ (by simp) rfl
    have x0_1 : (w.alloc (.cells #[.slice a rows.length c, .slice a' zs.length c'] 29)).cell? ⟨w.heap.size, 1, none⟩ = some (.slice a' zs.length c') := cell_new _ _ _ (by simp) rfl
    have HB0 := Lib.hid (below_alloc w (.cells #[.slice a rows.length c, .slice a' zs.length c'] 29))
    have s0 : w.heap.size + 1 ≤ (w.alloc (.cells #[.slice a rows.length c, .slice a' zs.length c'] 29)).heap.size := by simp
    generalize hw : (w.alloc (.cells #[.slice a rows.length c, .slice a' zs.length c'] 29)) = w0 at *
    clear hw
    have n0_0 : w.heap.size < w0.heap.size := by omega
    refine (spec_sample a rows c a' zs c' _ (Hhr.out.below HB0.out) (Hhz.out.below HB0.out) hn hk HMM.out true HS).mono ?_
    rintro e w1 ⟨rfl, hb⟩
    have s1 : w0.heap.size ≤ w1.heap.size := hb.size
    have n1_0 : w.heap.size < w1.heap.size := by omega
    replace x0_0 := cell_below hb x0_0 (by omega)
    replace x0_1 := cell_below hb x0_1 (by omega)
    have HB1 := Lib.hid (HB0.out.trans (hb.mono (by omega)))
    clear hb
    go_wp2_with fail
    refine (spec_has a' zs c' (1) _ (Hhz.out.below HB1.out) hk false H1).mono ?_
    rintro e w' ⟨rfl, rfl⟩
    go_wp2_with fail
    go_ret
    exact ⟨rfl, HB1.out⟩
  have H2 : Hid (hasB zs (-1) = ok) := Lib.hid (by rw [← h.out]; simp [mixB, hs, h1])
  have HS := Lib.hid hs
  have H1 := Lib.hid h1
  clear h hs h1
  have Hhr := Lib.hid hr
  have Hhz := Lib.hid hz
  clear hr hz
  go_enter Try.func87, Try.ntmps87
  go_wp2_with fail
  have x0_0 : (w.alloc (.cells #[.slice a rows.length c, .slice a' zs.length c'] 29)).cell? ⟨w.heap.size, 0, none⟩ = some (.slice a rows.length c) := cell_new _ _ _ (by simp) rfl
  have x0_1 : (w.alloc (.cells #[.slice a rows.length c, .slice a' zs.length c'] 29)).cell? ⟨w.heap.size, 1, none⟩ = some (.slice a' zs.length c') := cell_new _ _ _ (by simp) rfl
  have HB0 := Lib.hid (below_alloc w (.cells #[.slice a rows.length c, .slice a' zs.length c'] 29))
  have s0 : w.heap.size + 1 ≤ (w.alloc (.cells #[.slice a rows.length c, .slice a' zs.length c'] 29)).heap.size := by simp
  generalize hw : (w.alloc (.cells #[.slice a rows.length c, .slice a' zs.length c'] 29)) = w0 at *
  clear hw
  have n0_0 : w.heap.size < w0.heap.size := by omega
  refine (spec_sample a rows c a' zs c' _ (Hhr.out.below HB0.out) (Hhz.out.below HB0.out) hn hk HMM.out true HS).mono ?_
  rintro e w1 ⟨rfl, hb⟩
  have s1 : w0.heap.size ≤ w1.heap.size := hb.size
  have n1_0 : w.heap.size < w1.heap.size := by omega
  replace x0_0 := cell_below hb x0_0 (by omega)
  replace x0_1 := cell_below hb x0_1 (by omega)
  have HB1 := Lib.hid (HB0.out.trans (hb.mono (by omega)))
  clear hb
  go_wp2_with fail
  refine (spec_has a' zs c' (1) _ (Hhz.out.below HB1.out) hk true H1).mono ?_
  rintro e w' ⟨rfl, rfl⟩
  go_wp2_with fail
  refine (spec_has a' zs c' (-1) _ (Hhz.out.below HB1.out) hk ok H2).mono ?_
  rintro e w' ⟨rfl, rfl⟩
  go_wp2_with fail
  go_ret
  exact ⟨rfl, HB1.out⟩

theorem empty_any (a : Option Addr) (zs : List Int) (c : Nat) (n : Int) (w : World) (h : zs.length = 0) :
    Calls Try.prog 128 #[.slice a zs.length c, .int .i64 n] w (Says false w) := by
  rw [h]
  refine (Try.slices_Contains_int_empty a c n w).mono ?_
  rintro e w' ⟨rfl, hw⟩
  exact ⟨rfl, hw.symm⟩
set_option maxRecDepth 100000 in
set_option maxHeartbeats 4000000 in
theorem impl_mixed (a : Option Addr) (rows : List (List Int)) (c : Nat) (a' : Option Addr) (zs : List Int) (c' : Nat) (w : World) (hr : grid.Reads w a rows) (hz : ints.Reads .i64 w a' zs) (hn : rows.length ≤ 1048576) (hk : zs.length ≤ 1048576) (hm : ∀ r ∈ rows, r.length ≤ 1048576) (ok : Bool) (h : Hid (mixB rows zs = ok)) :
    Calls Try.prog 90 #[.agg #[.slice a rows.length c, .slice a' zs.length c']] w (RetB ok w) := by
  have HMM := Lib.hid hm
  clear hm
  cases hs : sampleB rows zs
  · have e : ok = false := by rw [← h.out]; simp [mixB, hs]
    have HS := Lib.hid hs
    clear h hs
    subst e
    have Hhr := Lib.hid hr
    have Hhz := Lib.hid hz
    clear hr hz
    go_enter Try.func90, Try.ntmps90
    go_wp2_with fail
    have x0_0 : (w.alloc (.cells #[.slice a rows.length c, .slice a' zs.length c'] 29)).cell? ⟨w.heap.size, 0, none⟩ = some (.slice a rows.length c) := cell_new _ _ _ (by simp) rfl
    have x0_1 : (w.alloc (.cells #[.slice a rows.length c, .slice a' zs.length c'] 29)).cell? ⟨w.heap.size, 1, none⟩ = some (.slice a' zs.length c') := cell_new _ _ _ (by simp) rfl
    have HB0 := Lib.hid (below_alloc w (.cells #[.slice a rows.length c, .slice a' zs.length c'] 29))
    have s0 : w.heap.size + 1 ≤ (w.alloc (.cells #[.slice a rows.length c, .slice a' zs.length c'] 29)).heap.size := by simp
    generalize hw : (w.alloc (.cells #[.slice a rows.length c, .slice a' zs.length c'] 29)) = w0 at *
    clear hw
    have n0_0 : w.heap.size < w0.heap.size := by omega
    refine (impl_sample a rows c a' zs c' _ (Hhr.out.below HB0.out) (Hhz.out.below HB0.out) hn hk HMM.out false HS).mono ?_
    rintro e w1 ⟨rfl, hb⟩
    have s1 : w0.heap.size ≤ w1.heap.size := hb.size
    have n1_0 : w.heap.size < w1.heap.size := by omega
    replace x0_0 := cell_below hb x0_0 (by omega)
    replace x0_1 := cell_below hb x0_1 (by omega)
    have HB1 := Lib.hid (HB0.out.trans (hb.mono (by omega)))
    clear hb
    go_wp2_with fail
    go_ret
    exact ⟨rfl, HB1.out⟩
  by_cases h0 : rows.length = 0
  · have hz0 : zs.length = 0 := by have := ((sampleB_iff _ _).1 hs).2.1; omega
    have e : ok = false := by rw [← h.out]; simp [mixB, hasB, List.length_eq_zero_iff.1 hz0]
    have HE := Lib.hid hz0
    have HS := Lib.hid hs
    clear h hs hz0 h0
    subst e
    have Hhr := Lib.hid hr
    have Hhz := Lib.hid hz
    clear hr hz
    go_enter Try.func90, Try.ntmps90
    go_wp2_with fail
    have x0_0 : (w.alloc (.cells #[.slice a rows.length c, .slice a' zs.length c'] 29)).cell? ⟨w.heap.size, 0, none⟩ = some (.slice a rows.length c) := cell_new _ _ _ (by simp) rfl
    have x0_1 : (w.alloc (.cells #[.slice a rows.length c, .slice a' zs.length c'] 29)).cell? ⟨w.heap.size, 1, none⟩ = some (.slice a' zs.length c') := cell_new _ _ _ (by simp) rfl
    have HB0 := Lib.hid (below_alloc w (.cells #[.slice a rows.length c, .slice a' zs.length c'] 29))
    have s0 : w.heap.size + 1 ≤ (w.alloc (.cells #[.slice a rows.length c, .slice a' zs.length c'] 29)).heap.size := by simp
    generalize hw : (w.alloc (.cells #[.slice a rows.length c, .slice a' zs.length c'] 29)) = w0 at *
    clear hw
    have n0_0 : w.heap.size < w0.heap.size := by omega
    refine (impl_sample a rows c a' zs c' _ (Hhr.out.below HB0.out) (Hhz.out.below HB0.out) hn hk HMM.out true HS).mono ?_
    rintro e w1 ⟨rfl, hb⟩
    have s1 : w0.heap.size ≤ w1.heap.size := hb.size
    have n1_0 : w.heap.size < w1.heap.size := by omega
    replace x0_0 := cell_below hb x0_0 (by omega)
    replace x0_1 := cell_below hb x0_1 (by omega)
    have HB1 := Lib.hid (HB0.out.trans (hb.mono (by omega)))
    clear hb
    go_wp2_with fail
    refine (empty_any a' zs c' 1 _ HE.out).mono ?_
    rintro e w' ⟨rfl, rfl⟩
    go_wp2_with fail
    go_ret
    exact ⟨rfl, HB1.out⟩
  have HP := Lib.hid (show 0 < zs.length from by have := ((sampleB_iff _ _).1 hs).2.1; omega)
  clear h0
  cases h1 : hasB zs 1
  · have e : ok = false := by rw [← h.out]; simp [mixB, h1]
    have HS := Lib.hid hs
    have H1 := Lib.hid h1
    clear h hs h1
    subst e
    have Hhr := Lib.hid hr
    have Hhz := Lib.hid hz
    clear hr hz
    go_enter Try.func90, Try.ntmps90
    go_wp2_with fail
    have x0_0 : (w.alloc (.cells #[.slice a rows.length c, .slice a' zs.length c'] 29)).cell? ⟨w.heap.size, 0, none⟩ = some (.slice a rows.length c) := cell_new _ _ _ (by simp) rfl
    have x0_1 : (w.alloc (.cells #[.slice a rows.length c, .slice a' zs.length c'] 29)).cell? ⟨w.heap.size, 1, none⟩ = some (.slice a' zs.length c') := cell_new _ _ _ (by simp) rfl
    have HB0 := Lib.hid (below_alloc w (.cells #[.slice a rows.length c, .slice a' zs.length c'] 29))
    have s0 : w.heap.size + 1 ≤ (w.alloc (.cells #[.slice a rows.length c, .slice a' zs.length c'] 29)).heap.size := by simp
    generalize hw : (w.alloc (.cells #[.slice a rows.length c, .slice a' zs.length c'] 29)) = w0 at *
    clear hw
    have n0_0 : w.heap.size < w0.heap.size := by omega
    refine (impl_sample a rows c a' zs c' _ (Hhr.out.below HB0.out) (Hhz.out.below HB0.out) hn hk HMM.out true HS).mono ?_
    rintro e w1 ⟨rfl, hb⟩
    have s1 : w0.heap.size ≤ w1.heap.size := hb.size
    have n1_0 : w.heap.size < w1.heap.size := by omega
    replace x0_0 := cell_below hb x0_0 (by omega)
    replace x0_1 := cell_below hb x0_1 (by omega)
    have HB1 := Lib.hid (HB0.out.trans (hb.mono (by omega)))
    clear hb
    go_wp2_with fail
    refine (contains_any a' zs c' (1) _ (Hhz.out.below HB1.out) hk (by have := HP.out; omega) false H1).mono ?_
    rintro e w' ⟨rfl, rfl⟩
    go_wp2_with fail
    go_ret
    exact ⟨rfl, HB1.out⟩
  have H2 : Hid (hasB zs (-1) = ok) := Lib.hid (by rw [← h.out]; simp [mixB, hs, h1])
  have HS := Lib.hid hs
  have H1 := Lib.hid h1
  clear h hs h1
  have Hhr := Lib.hid hr
  have Hhz := Lib.hid hz
  clear hr hz
  go_enter Try.func90, Try.ntmps90
  go_wp2_with fail
  have x0_0 : (w.alloc (.cells #[.slice a rows.length c, .slice a' zs.length c'] 29)).cell? ⟨w.heap.size, 0, none⟩ = some (.slice a rows.length c) := cell_new _ _ _ (by simp) rfl
  have x0_1 : (w.alloc (.cells #[.slice a rows.length c, .slice a' zs.length c'] 29)).cell? ⟨w.heap.size, 1, none⟩ = some (.slice a' zs.length c') := cell_new _ _ _ (by simp) rfl
  have HB0 := Lib.hid (below_alloc w (.cells #[.slice a rows.length c, .slice a' zs.length c'] 29))
  have s0 : w.heap.size + 1 ≤ (w.alloc (.cells #[.slice a rows.length c, .slice a' zs.length c'] 29)).heap.size := by simp
  generalize hw : (w.alloc (.cells #[.slice a rows.length c, .slice a' zs.length c'] 29)) = w0 at *
  clear hw
  have n0_0 : w.heap.size < w0.heap.size := by omega
  refine (impl_sample a rows c a' zs c' _ (Hhr.out.below HB0.out) (Hhz.out.below HB0.out) hn hk HMM.out true HS).mono ?_
  rintro e w1 ⟨rfl, hb⟩
  have s1 : w0.heap.size ≤ w1.heap.size := hb.size
  have n1_0 : w.heap.size < w1.heap.size := by omega
  replace x0_0 := cell_below hb x0_0 (by omega)
  replace x0_1 := cell_below hb x0_1 (by omega)
  have HB1 := Lib.hid (HB0.out.trans (hb.mono (by omega)))
  clear hb
  go_wp2_with fail
  refine (contains_any a' zs c' (1) _ (Hhz.out.below HB1.out) hk (by have := HP.out; omega) true H1).mono ?_
  rintro e w' ⟨rfl, rfl⟩
  go_wp2_with fail
  refine (contains_any a' zs c' (-1) _ (Hhz.out.below HB1.out) hk (by have := HP.out; omega) ok H2).mono ?_
  rintro e w' ⟨rfl, rfl⟩
  go_wp2_with fail
  go_ret
  exact ⟨rfl, HB1.out⟩
end Go.Proofs.Ytkbcofgigfnfaaa.width
