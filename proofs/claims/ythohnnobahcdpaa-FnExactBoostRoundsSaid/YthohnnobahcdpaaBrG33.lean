/- Several texts in one. -/
import Derived.Test.YthohnnobahcdpaaBrG28
import Derived.Test.YthohnnobahcdpaaSamplesT
import Derived.Test.YthohnnobahcdpaaBrG20
namespace Go.Proofs.Ythohnnobahcdpaa.even
open Go.RowKit own pp nums nums samplesv samplest
set_option linter.unusedVariables false
set_option linter.unusedSimpArgs false

def evenL (z : Int) (n : Nat) : List Int := List.replicate n z
theorem even_length (z : Int) (n : Nat) : (evenL z n).length = n := by simp [evenL]
theorem even_succ (z : Int) (n : Nat) : evenL z (n + 1) = evenL z n ++ [z] := by unfold evenL; exact List.replicate_succ'
def hfB (rows : List (List Int)) (zs : List Int) (n : Int) : Bool := sampleB rows zs && (decide (0 ≤ n) && decide (n ≤ 1000000))

set_option maxRecDepth 100000 in
set_option maxHeartbeats 4000000 in
theorem impl_even (a : Option Addr) (rows : List (List Int)) (c : Nat) (a' : Option Addr) (zs : List Int) (c' : Nat) (n : Int) (w : World) (h16 : rows.length ≤ 16) :
    Calls Try.prog 83 #[.agg #[.slice a rows.length c, .slice a' zs.length c'], .int .i64 n] w (intfns.Made (evenL n rows.length) w) := by
  go_enter Try.func83, Try.ntmps83
  obtain ⟨b1, hw1⟩ : ∃ b1 : World, b1 = w.alloc (.cells #[.slice a rows.length c, .slice a' zs.length c'] 38) := ⟨_, rfl⟩
  have z1 : b1.heap.size = w.heap.size + 1 := by rw [hw1]; simp
  have x0_0 := (by rw [hw1]; exact cell_new _ _ _ rfl rfl : b1.cell? ⟨w.heap.size, 0, none⟩ = some (.slice a rows.length c))
  have x0_1 := (by rw [hw1]; exact cell_new _ _ _ rfl rfl : b1.cell? ⟨w.heap.size, 1, none⟩ = some (.slice a' zs.length c'))
  have HB0 := Lib.hid (show Below w.heap.size w b1 by rw [hw1]; exact (Below.refl w.heap.size w).alloc (Nat.le_refl _) _)
  have s1 : w.heap.size + 1 ≤ b1.heap.size := by omega
  have HZ1 := Lib.hid z1
  clear z1
  go_wp2_with fail
  rw [← hw1]
  clear hw1
  rw [← HZ1.out]
  have hbx := below_alloc b1 (.cells #[.int .i64 n] 3)
  have hcx : (b1.alloc (.cells #[.int .i64 n] 3)).cell? ⟨b1.heap.size, 0, none⟩ = some (.int .i64 n) := cell_new _ _ _ rfl rfl
  refine (repz.rep_any n b1.heap.size 0 1 rows.length _ hcx (by omega)).mono ?_
  rintro e w2 ⟨v, rfl, ho, hb⟩
  have HO := Lib.hid (ho.mono (Nat.le_trans (by omega) hbx.size) (Nat.le_refl _) : OwnI w.heap.size w2.heap.size w2 v (evenL n rows.length))
  have HB2 := Lib.hid (HB0.out.trans (hbx.mono (by omega)) |>.trans (hb.mono (Nat.le_trans (by omega) hbx.size)))
  clear ho hb hbx hcx
  go_wp2_with fail
  go_ret
  exact ⟨v, rfl, HO.out, HB2.out⟩
set_option maxRecDepth 100000 in
set_option maxHeartbeats 4000000 in
theorem spec_ones (a : Option Addr) (rows : List (List Int)) (c : Nat) (a' : Option Addr) (zs : List Int) (c' : Nat) (w : World) (h16 : rows.length ≤ 16) :
    Calls Try.prog 116 #[.agg #[.slice a rows.length c, .slice a' zs.length c']] w (intfns.Made (evenL 1 rows.length) w) := by
  obtain ⟨i0, hi, hz0, hz1, hz2⟩ := info_parts mk.infoInt
  go_enter Try.func116, Try.ntmps116
  obtain ⟨b1, hw1⟩ : ∃ b1 : World, b1 = w.alloc (.cells #[.slice a rows.length c, .slice a' zs.length c'] 38) := ⟨_, rfl⟩
  have z1 : b1.heap.size = w.heap.size + 1 := by rw [hw1]; simp
  have x0_0 := (by rw [hw1]; exact cell_new _ _ _ rfl rfl : b1.cell? ⟨w.heap.size, 0, none⟩ = some (.slice a rows.length c))
  have x0_1 := (by rw [hw1]; exact cell_new _ _ _ rfl rfl : b1.cell? ⟨w.heap.size, 1, none⟩ = some (.slice a' zs.length c'))
  have HB0 := Lib.hid (show Below w.heap.size w b1 by rw [hw1]; exact (Below.refl w.heap.size w).alloc (Nat.le_refl _) _)
  have s1 : w.heap.size + 1 ≤ b1.heap.size := by omega
  have HZ1 := Lib.hid z1
  clear z1
  go_wp2_with fail
  rw [← hw1]
  clear hw1
  rw [← HZ1.out]
  go_loopw [3, 4] (fun v i wr => ∃ k : Nat, k ≤ rows.length ∧ i = .int .i64 k ∧ wr.ownsRow b1.heap.size 3 1 v k ((evenL 1 k).map (Value.int .i64)) ∧ Below b1.heap.size b1 wr) (fun _ i _ => rows.length - (intOf i).toNat)
  case atStart => exact ⟨0, Nat.zero_le _, rfl, (own_empty b1).1, below_alloc b1 _⟩
  case round =>
    obtain ⟨k, hk, rfl, hown, hbel⟩ := hrel
    have hvb := hown.lt
    have hsz := hbel.size
    replace x0_0 := cell_below hbel x0_0 (by omega)
    replace x0_1 := cell_below hbel x0_1 (by omega)
    by_cases hlt : k < rows.length
    · have HO := Lib.hid hown
      have HV := Lib.hid hvb
      have HBl := Lib.hid hbel
      have i1 : (0 : Int) ≤ (k : Int) := by omega
      have i2 : (k : Int) < (rows.length : Int) := by omega
      clear hown hbel hvb
      go_wp2_with (at_builtin; refine wpList_append_own _ rfl _ _ 22 rfl b1.heap.size 3 i0 (.int .i64 0) 1 8 Try.underlying22 hi hz0 hz1 hz2 rfl (by decide) _ _ _ rfl (HO.out.alloc _) ⟨wr.heap.size, 0, none⟩ 1 1 [.int .i64 1] rfl rfl (cell_one_new _ _ _) (by simp [Value.oneCell']) (by unfold maxLen; omega) (by omega) (by simp; omega) ?_; intro v' w2 hown' hgrow _)
      obtain ⟨g', cap', hv'⟩ := ownsRow_succ hown'
      subst hv'
      have HO2 := Lib.hid hown'
      have HB2 := Lib.hid ((HBl.out.alloc hsz _).grown hgrow (by simp; omega) (fun g e => (HV.out g e).1))
      clear hown' hgrow
      go_wp2_with fail
      go_roundw
      case rel => exact ⟨k + 1, by omega, by go_num, by rw [even_succ, List.map_append]; exact HO2.out, HB2.out⟩
      case measure => simp [intOf]; omega
    · obtain rfl : k = rows.length := by omega
      have HF1 := Lib.hid (show intfns.Made (evenL 1 rows.length) w (.returned u3) wr from ⟨u3, rfl, ((OwnI.of (by rw [even_length]; exact hown)).mono (by omega) (Nat.le_refl _)), HB0.out.trans (hbel.mono (by omega))⟩)
      clear hown hbel hvb
      go_wp2_with fail
      go_ret
      exact HF1.out
set_option maxRecDepth 100000 in
set_option maxHeartbeats 4000000 in
theorem spec_no (a : Option Addr) (rows : List (List Int)) (c : Nat) (a' : Option Addr) (zs : List Int) (c' : Nat) (n : Int) (w : World) (hr : grid.Reads w a rows) (hz : ints.Reads .i64 w a' zs) (hn : rows.length ≤ 1048576) (hk : zs.length ≤ 1048576) (hm : ∀ r ∈ rows, r.length ≤ 1048576) (h : hfB rows zs n = false) :
    Calls Try.prog 59 #[.agg #[.slice a rows.length c, .slice a' zs.length c'], .int .i64 n] w (RetIB [] false w) := by
  have HR := Lib.hid hr
  have HZ := Lib.hid hz
  have HM := Lib.hid hm
  clear hr hz hm
  cases hs : sampleB rows zs
  · have HS := Lib.hid hs
    clear h hs
    go_enter Try.func59, Try.ntmps59
    obtain ⟨b1, hw1⟩ : ∃ b1 : World, b1 = w.alloc (.cells #[.slice a rows.length c, .slice a' zs.length c'] 38) := ⟨_, rfl⟩
    have z1 : b1.heap.size = w.heap.size + 1 := by rw [hw1]; simp
    have x0_0 := (by rw [hw1]; exact cell_new _ _ _ rfl rfl : b1.cell? ⟨w.heap.size, 0, none⟩ = some (.slice a rows.length c))
    have x0_1 := (by rw [hw1]; exact cell_new _ _ _ rfl rfl : b1.cell? ⟨w.heap.size, 1, none⟩ = some (.slice a' zs.length c'))
    have HB0 := Lib.hid (show Below w.heap.size w b1 by rw [hw1]; exact (Below.refl w.heap.size w).alloc (Nat.le_refl _) _)
    have s1 : w.heap.size + 1 ≤ b1.heap.size := by omega
    have HZ1 := Lib.hid z1
    clear z1
    go_wp2_with fail
    rw [← hw1, ← HZ1.out]
    have he := own_empty b1
    have hbe := below_alloc b1 (.cells #[] 3)
    replace x0_0 := cell_below hbe x0_0 (by omega)
    replace x0_1 := cell_below hbe x0_1 (by omega)
    have HOE := Lib.hid he
    have HBE := Lib.hid (HB0.out.trans (hbe.mono (by omega)))
    have HBb := Lib.hid hbe
    have sE : b1.heap.size + 1 = (b1.alloc (.cells #[] 3)).heap.size := by simp
    clear he hbe hw1
    generalize hwe : b1.alloc (.cells #[] 3) = bE at *
    clear hwe
    refine (spec_sample a rows c a' zs c' _ (HR.out.below HBE.out) (HZ.out.below HBE.out) hn hk HM.out false HS).mono ?_
    rintro e w2 ⟨rfl, hb⟩
    have y0 := cell_below hb x0_0 (by omega)
    have y1 := cell_below hb x0_1 (by omega)
    have HO2 := Lib.hid (HOE.out.below hb)
    have s2 := hb.size
    have HB2 := Lib.hid (HBE.out.trans (hb.mono (by omega)))
    have HBb2 := Lib.hid (HBb.out.trans (hb.mono (by omega)))
    clear hb x0_0 x0_1
    go_wp2_with fail
    go_ret2
    exact ⟨_, rfl, HO2.out.mono (by omega) (by omega), HB2.out⟩
  · have HX := Lib.hid (show (decide (0 ≤ n) && decide (n ≤ 1000000)) = false by rw [← h]; unfold hfB; rw [hs]; rfl)
    have HS := Lib.hid hs
    clear h hs
    go_enter Try.func59, Try.ntmps59
    obtain ⟨b1, hw1⟩ : ∃ b1 : World, b1 = w.alloc (.cells #[.slice a rows.length c, .slice a' zs.length c'] 38) := ⟨_, rfl⟩
    have z1 : b1.heap.size = w.heap.size + 1 := by rw [hw1]; simp
    have x0_0 := (by rw [hw1]; exact cell_new _ _ _ rfl rfl : b1.cell? ⟨w.heap.size, 0, none⟩ = some (.slice a rows.length c))
    have x0_1 := (by rw [hw1]; exact cell_new _ _ _ rfl rfl : b1.cell? ⟨w.heap.size, 1, none⟩ = some (.slice a' zs.length c'))
    have HB0 := Lib.hid (show Below w.heap.size w b1 by rw [hw1]; exact (Below.refl w.heap.size w).alloc (Nat.le_refl _) _)
    have s1 : w.heap.size + 1 ≤ b1.heap.size := by omega
    have HZ1 := Lib.hid z1
    clear z1
    go_wp2_with fail
    rw [← hw1, ← HZ1.out]
    have he := own_empty b1
    have hbe := below_alloc b1 (.cells #[] 3)
    replace x0_0 := cell_below hbe x0_0 (by omega)
    replace x0_1 := cell_below hbe x0_1 (by omega)
    have HOE := Lib.hid he
    have HBE := Lib.hid (HB0.out.trans (hbe.mono (by omega)))
    have HBb := Lib.hid hbe
    have sE : b1.heap.size + 1 = (b1.alloc (.cells #[] 3)).heap.size := by simp
    clear he hbe hw1
    generalize hwe : b1.alloc (.cells #[] 3) = bE at *
    clear hwe
    refine (spec_sample a rows c a' zs c' _ (HR.out.below HBE.out) (HZ.out.below HBE.out) hn hk HM.out true HS).mono ?_
    rintro e w2 ⟨rfl, hb⟩
    have y0 := cell_below hb x0_0 (by omega)
    have y1 := cell_below hb x0_1 (by omega)
    have HO2 := Lib.hid (HOE.out.below hb)
    have s2 := hb.size
    have HB2 := Lib.hid (HBE.out.trans (hb.mono (by omega)))
    have HBb2 := Lib.hid (HBb.out.trans (hb.mono (by omega)))
    clear hb x0_0 x0_1
    go_wp2_with fail
    refine (in_any _ _ _ _ false HX).mono ?_
    rintro e w' ⟨rfl, rfl⟩
    go_wp2_with fail
    go_ret2
    exact ⟨_, rfl, HO2.out.mono (by omega) (by omega), HB2.out⟩
set_option maxRecDepth 100000 in
set_option maxHeartbeats 4000000 in
theorem spec_yes (a : Option Addr) (rows : List (List Int)) (c : Nat) (a' : Option Addr) (zs : List Int) (c' : Nat) (n : Int) (w : World) (hr : grid.Reads w a rows) (hz : ints.Reads .i64 w a' zs) (hn : rows.length ≤ 1048576) (hk : zs.length ≤ 1048576) (hm : ∀ r ∈ rows, r.length ≤ 1048576) (h : hfB rows zs n = true) :
    Calls Try.prog 59 #[.agg #[.slice a rows.length c, .slice a' zs.length c'], .int .i64 n] w (RetIB (evenL n rows.length) true w) := by
  have HR := Lib.hid hr
  have HZ := Lib.hid hz
  have HM := Lib.hid hm
  clear hr hz hm
  obtain ⟨i0, hi, hz0, hz1, hz2⟩ := info_parts mk.infoInt
  have h16 := ((sampleB_iff _ _).1 (show sampleB rows zs = true by unfold hfB at h; simp at h; exact h.1)).1
  have HS := Lib.hid (show sampleB rows zs = true by unfold hfB at h; simp at h; exact h.1)
  have HX := Lib.hid (show (decide (0 ≤ n) && decide (n ≤ 1000000)) = true by unfold hfB at h; simp at h; simp; exact h.2)
  clear h
  go_enter Try.func59, Try.ntmps59
  obtain ⟨b1, hw1⟩ : ∃ b1 : World, b1 = w.alloc (.cells #[.slice a rows.length c, .slice a' zs.length c'] 38) := ⟨_, rfl⟩
  have z1 : b1.heap.size = w.heap.size + 1 := by rw [hw1]; simp
  have x0_0 := (by rw [hw1]; exact cell_new _ _ _ rfl rfl : b1.cell? ⟨w.heap.size, 0, none⟩ = some (.slice a rows.length c))
  have x0_1 := (by rw [hw1]; exact cell_new _ _ _ rfl rfl : b1.cell? ⟨w.heap.size, 1, none⟩ = some (.slice a' zs.length c'))
  have XX0 := Lib.hid x0_0
  have HB0 := Lib.hid (show Below w.heap.size w b1 by rw [hw1]; exact (Below.refl w.heap.size w).alloc (Nat.le_refl _) _)
  have s1 : w.heap.size + 1 ≤ b1.heap.size := by omega
  have HZ1 := Lib.hid z1
  clear z1
  go_wp2_with fail
  rw [← hw1, ← HZ1.out]
  have he := own_empty b1
  have hbe := below_alloc b1 (.cells #[] 3)
  replace x0_0 := cell_below hbe x0_0 (by omega)
  replace x0_1 := cell_below hbe x0_1 (by omega)
  have HOE := Lib.hid he
  have HBE := Lib.hid (HB0.out.trans (hbe.mono (by omega)))
  have HBb := Lib.hid hbe
  have sE : b1.heap.size + 1 = (b1.alloc (.cells #[] 3)).heap.size := by simp
  clear he hbe hw1
  generalize hwe : b1.alloc (.cells #[] 3) = bE at *
  clear hwe
  refine (spec_sample a rows c a' zs c' _ (HR.out.below HBE.out) (HZ.out.below HBE.out) hn hk HM.out true HS).mono ?_
  rintro e w2 ⟨rfl, hb⟩
  have y0 := cell_below hb x0_0 (by omega)
  have y1 := cell_below hb x0_1 (by omega)
  have HO2 := Lib.hid (HOE.out.below hb)
  have s2 := hb.size
  have HB2 := Lib.hid (HBE.out.trans (hb.mono (by omega)))
  have HBb2 := Lib.hid (HBb.out.trans (hb.mono (by omega)))
  clear hb x0_0 x0_1
  go_wp2_with fail
  refine (in_any _ _ _ _ true HX).mono ?_
  rintro e w' ⟨rfl, rfl⟩
  go_wp2_with fail
  go_loopw [6, 7] (fun v i wr => ∃ k : Nat, k ≤ rows.length ∧ i = .int .i64 k ∧ wr.ownsRow b1.heap.size 3 1 v k ((evenL n k).map (Value.int .i64)) ∧ Below b1.heap.size b1 wr) (fun _ i _ => rows.length - (intOf i).toNat)
  case atStart => exact ⟨0, Nat.zero_le _, rfl, HO2.out.1, HBb2.out⟩
  case round =>
    obtain ⟨k, hk, rfl, hown, hbel⟩ := hrel
    have hvb := hown.lt
    have hsz := hbel.size
    have z0 : wr.cell? ⟨w.heap.size, 0, none⟩ = some (.slice a rows.length c) := cell_below hbel XX0.out (by omega)
    by_cases hlt : k < rows.length
    · have HO := Lib.hid hown
      have HV := Lib.hid hvb
      have HBl := Lib.hid hbel
      have i1 : (0 : Int) ≤ (k : Int) := by omega
      have i2 : (k : Int) < (rows.length : Int) := by omega
      clear hown hbel hvb
      go_wp2_with (at_builtin; refine wpList_append_own _ rfl _ _ 22 rfl b1.heap.size 3 i0 (.int .i64 0) 1 8 Try.underlying22 hi hz0 hz1 hz2 rfl (by decide) _ _ _ rfl (HO.out.alloc _) ⟨wr.heap.size, 0, none⟩ 1 1 [.int .i64 n] rfl rfl (cell_one_new _ _ _) (by simp [Value.oneCell']) (by unfold maxLen; omega) (by omega) (by simp; omega) ?_; intro v' w2 hown' hgrow _)
      obtain ⟨g', cap', hv'⟩ := ownsRow_succ hown'
      subst hv'
      have HO2 := Lib.hid hown'
      have HB2 := Lib.hid ((HBl.out.alloc hsz _).grown hgrow (by simp; omega) (fun g e => (HV.out g e).1))
      clear hown' hgrow
      go_wp2_with fail
      go_roundw
      case rel => exact ⟨k + 1, by omega, by go_num, by rw [even_succ, List.map_append]; exact HO2.out, HB2.out⟩
      case measure => simp [intOf]; omega
    · obtain rfl : k = rows.length := by omega
      have HF1 := Lib.hid (show RetIB (evenL n rows.length) true w (.returned (.tuple #[u6, .bool true])) wr from ⟨u6, rfl, ((OwnI.of (by rw [even_length]; exact hown)).mono (by omega) (Nat.le_refl _)), HB0.out.trans (hbel.mono (by omega))⟩)
      clear hown hbel hvb
      go_wp2_with fail
      go_ret2
      exact HF1.out
set_option maxRecDepth 100000 in
set_option maxHeartbeats 4000000 in
theorem impl_no (a : Option Addr) (rows : List (List Int)) (c : Nat) (a' : Option Addr) (zs : List Int) (c' : Nat) (n : Int) (w : World) (hr : grid.Reads w a rows) (hz : ints.Reads .i64 w a' zs) (hn : rows.length ≤ 1048576) (hk : zs.length ≤ 1048576) (hm : ∀ r ∈ rows, r.length ≤ 1048576) (h : hfB rows zs n = false) :
    Calls Try.prog 60 #[.agg #[.slice a rows.length c, .slice a' zs.length c'], .int .i64 n] w (RetIB [] false w) := by
  have HR := Lib.hid hr
  have HZ := Lib.hid hz
  have HM := Lib.hid hm
  clear hr hz hm
  cases hs : sampleB rows zs
  · have HS := Lib.hid hs
    clear h hs
    go_enter Try.func60, Try.ntmps60
    obtain ⟨b1, hw1⟩ : ∃ b1 : World, b1 = w.alloc (.cells #[.slice a rows.length c, .slice a' zs.length c'] 38) := ⟨_, rfl⟩
    have z1 : b1.heap.size = w.heap.size + 1 := by rw [hw1]; simp
    have x0_0 := (by rw [hw1]; exact cell_new _ _ _ rfl rfl : b1.cell? ⟨w.heap.size, 0, none⟩ = some (.slice a rows.length c))
    have x0_1 := (by rw [hw1]; exact cell_new _ _ _ rfl rfl : b1.cell? ⟨w.heap.size, 1, none⟩ = some (.slice a' zs.length c'))
    have HB0 := Lib.hid (show Below w.heap.size w b1 by rw [hw1]; exact (Below.refl w.heap.size w).alloc (Nat.le_refl _) _)
    have s1 : w.heap.size + 1 ≤ b1.heap.size := by omega
    have HZ1 := Lib.hid z1
    clear z1
    go_wp2_with fail
    rw [← hw1]
    clear hw1
    refine (impl_sample a rows c a' zs c' _ (HR.out.below HB0.out) (HZ.out.below HB0.out) hn hk HM.out false HS).mono ?_
    rintro e w2 ⟨rfl, hb⟩
    have y0 := cell_below hb x0_0 (by omega)
    have y1 := cell_below hb x0_1 (by omega)
    have s2 := hb.size
    have HB2 := Lib.hid (HB0.out.trans (hb.mono (by omega)))
    clear hb x0_0 x0_1
    go_wp2_with fail
    go_ret2
    exact ret_empty HB2.out
  · have hx : ¬ (0 ≤ n ∧ n ≤ 1000000) := fun e => by unfold hfB at h; rw [hs] at h; simp at h; omega
    have HS := Lib.hid hs
    clear h hs
    by_cases h0 : n < 0
    · have g : decide (n < 0) = true := by simpa using h0
      go_enter Try.func60, Try.ntmps60
      obtain ⟨b1, hw1⟩ : ∃ b1 : World, b1 = w.alloc (.cells #[.slice a rows.length c, .slice a' zs.length c'] 38) := ⟨_, rfl⟩
      have z1 : b1.heap.size = w.heap.size + 1 := by rw [hw1]; simp
      have x0_0 := (by rw [hw1]; exact cell_new _ _ _ rfl rfl : b1.cell? ⟨w.heap.size, 0, none⟩ = some (.slice a rows.length c))
      have x0_1 := (by rw [hw1]; exact cell_new _ _ _ rfl rfl : b1.cell? ⟨w.heap.size, 1, none⟩ = some (.slice a' zs.length c'))
      have HB0 := Lib.hid (show Below w.heap.size w b1 by rw [hw1]; exact (Below.refl w.heap.size w).alloc (Nat.le_refl _) _)
      have s1 : w.heap.size + 1 ≤ b1.heap.size := by omega
      have HZ1 := Lib.hid z1
      clear z1
      go_wp2_with fail
      rw [← hw1]
      clear hw1
      refine (impl_sample a rows c a' zs c' _ (HR.out.below HB0.out) (HZ.out.below HB0.out) hn hk HM.out true HS).mono ?_
      rintro e w2 ⟨rfl, hb⟩
      have y0 := cell_below hb x0_0 (by omega)
      have y1 := cell_below hb x0_1 (by omega)
      have s2 := hb.size
      have HB2 := Lib.hid (HB0.out.trans (hb.mono (by omega)))
      clear hb x0_0 x0_1
      go_wp2_with fail
      go_ret2
      exact ret_empty HB2.out
    · have g : decide (n < 0) = false := by simpa using h0
      have g2 : decide (1000000 < n) = true := by simp; omega
      go_enter Try.func60, Try.ntmps60
      obtain ⟨b1, hw1⟩ : ∃ b1 : World, b1 = w.alloc (.cells #[.slice a rows.length c, .slice a' zs.length c'] 38) := ⟨_, rfl⟩
      have z1 : b1.heap.size = w.heap.size + 1 := by rw [hw1]; simp
      have x0_0 := (by rw [hw1]; exact cell_new _ _ _ rfl rfl : b1.cell? ⟨w.heap.size, 0, none⟩ = some (.slice a rows.length c))
      have x0_1 := (by rw [hw1]; exact cell_new _ _ _ rfl rfl : b1.cell? ⟨w.heap.size, 1, none⟩ = some (.slice a' zs.length c'))
      have HB0 := Lib.hid (show Below w.heap.size w b1 by rw [hw1]; exact (Below.refl w.heap.size w).alloc (Nat.le_refl _) _)
      have s1 : w.heap.size + 1 ≤ b1.heap.size := by omega
      have HZ1 := Lib.hid z1
      clear z1
      go_wp2_with fail
      rw [← hw1]
      clear hw1
      refine (impl_sample a rows c a' zs c' _ (HR.out.below HB0.out) (HZ.out.below HB0.out) hn hk HM.out true HS).mono ?_
      rintro e w2 ⟨rfl, hb⟩
      have y0 := cell_below hb x0_0 (by omega)
      have y1 := cell_below hb x0_1 (by omega)
      have s2 := hb.size
      have HB2 := Lib.hid (HB0.out.trans (hb.mono (by omega)))
      clear hb x0_0 x0_1
      go_wp2_with fail
      go_ret2
      exact ret_empty HB2.out
set_option maxRecDepth 100000 in
set_option maxHeartbeats 4000000 in
theorem impl_yes (a : Option Addr) (rows : List (List Int)) (c : Nat) (a' : Option Addr) (zs : List Int) (c' : Nat) (n : Int) (w : World) (hr : grid.Reads w a rows) (hz : ints.Reads .i64 w a' zs) (hn : rows.length ≤ 1048576) (hk : zs.length ≤ 1048576) (hm : ∀ r ∈ rows, r.length ≤ 1048576) (h : hfB rows zs n = true) :
    Calls Try.prog 60 #[.agg #[.slice a rows.length c, .slice a' zs.length c'], .int .i64 n] w (RetIB (evenL n rows.length) true w) := by
  have HR := Lib.hid hr
  have HZ := Lib.hid hz
  have HM := Lib.hid hm
  clear hr hz hm
  have h16 := ((sampleB_iff _ _).1 (show sampleB rows zs = true by unfold hfB at h; simp at h; exact h.1)).1
  have HS := Lib.hid (show sampleB rows zs = true by unfold hfB at h; simp at h; exact h.1)
  have hx : 0 ≤ n ∧ n ≤ 1000000 := by unfold hfB at h; simp at h; exact h.2
  have g : decide (n < 0) = false := by simp; omega
  have g2 : decide (1000000 < n) = false := by simp; omega
  clear h hx
  go_enter Try.func60, Try.ntmps60
  obtain ⟨b1, hw1⟩ : ∃ b1 : World, b1 = w.alloc (.cells #[.slice a rows.length c, .slice a' zs.length c'] 38) := ⟨_, rfl⟩
  have z1 : b1.heap.size = w.heap.size + 1 := by rw [hw1]; simp
  have x0_0 := (by rw [hw1]; exact cell_new _ _ _ rfl rfl : b1.cell? ⟨w.heap.size, 0, none⟩ = some (.slice a rows.length c))
  have x0_1 := (by rw [hw1]; exact cell_new _ _ _ rfl rfl : b1.cell? ⟨w.heap.size, 1, none⟩ = some (.slice a' zs.length c'))
  have HB0 := Lib.hid (show Below w.heap.size w b1 by rw [hw1]; exact (Below.refl w.heap.size w).alloc (Nat.le_refl _) _)
  have s1 : w.heap.size + 1 ≤ b1.heap.size := by omega
  have HZ1 := Lib.hid z1
  clear z1
  go_wp2_with fail
  rw [← hw1]
  clear hw1
  refine (impl_sample a rows c a' zs c' _ (HR.out.below HB0.out) (HZ.out.below HB0.out) hn hk HM.out true HS).mono ?_
  rintro e w2 ⟨rfl, hb⟩
  have y0 := cell_below hb x0_0 (by omega)
  have y1 := cell_below hb x0_1 (by omega)
  have s2 := hb.size
  have HB2 := Lib.hid (HB0.out.trans (hb.mono (by omega)))
  clear hb x0_0 x0_1
  go_wp2_with fail
  refine (impl_even a rows c a' zs c' n _ h16).mono ?_
  rintro e w3 ⟨v, rfl, ho, hb⟩
  have HO := Lib.hid (ho.mono (Nat.le_trans (by omega) s2) (Nat.le_refl _) : OwnI w.heap.size w3.heap.size w3 v (evenL n rows.length))
  have HB3 := Lib.hid (HB2.out.trans (hb.mono (by omega)))
  clear ho hb
  go_wp2_with fail
  go_ret2
  exact ⟨v, rfl, HO.out, HB3.out⟩
end Go.Proofs.Ythohnnobahcdpaa.even
