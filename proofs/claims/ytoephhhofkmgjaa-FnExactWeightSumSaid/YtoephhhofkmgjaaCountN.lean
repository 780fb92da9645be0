/- The numbers of gates, the model's and the program's. -/
import Derived.Test.YtoephhhofkmgjaaNetB
import Derived.Test.YtoephhhofkmgjaaConcL
import Derived.Deep.RegionHeld3
namespace Go.Proofs.Ytoephhhofkmgjaa.countn
open Go.RowKit own pp nums planes netp netb concl
set_option linter.unusedVariables false
set_option linter.unusedSimpArgs false

/-- The number of all gates. -/
def gates (ls : List (List (List Int × Int))) : Nat := ls.flatten.length
theorem flat_sum (n : Int) {ls : List (List (List Int × Int))} (h : netB n ls = true) : ls.flatten.length ≤ 24 := by
  have h1 := net_len h
  have : ∀ k, k ≤ ls.length → (ls.take k).flatten.length ≤ 4 * k := by
    intro k hk
    induction k with
    | zero => simp
    | succ k ih =>
      have h2 := ih (by omega)
      have h3 := (net_lay h k (by omega)).2
      rw [take_snocL ls k (by omega), List.flatten_append, List.length_append]
      simp only [List.flatten_cons, List.flatten_nil, List.append_nil]
      omega
  have h4 := this ls.length (Nat.le_refl _)
  rw [List.take_length] at h4
  omega
set_option maxRecDepth 100000 in
set_option maxHeartbeats 1600000 in
theorem spec_count_no (a : Option Addr) (ls : List (List (List Int × Int))) (c : Nat) (n : Int) (w : World) (hr : ReadsL w a ls) (hn : ls.length ≤ 1048576) (hm : ∀ x ∈ ls, x.length ≤ 1048576 ∧ ∀ y ∈ x, y.1.length ≤ 1048576) (hk : netB n ls = false) :
    Calls Try.prog 32 #[.agg #[.int .i64 n, .slice a ls.length c]] w (RetNB 0 false w) := by
  have Hhr := Lib.hid hr
  have Hhm := Lib.hid hm
  clear hr hm
  have HK := Lib.hid hk
  clear hk
  go_enter Try.func32, Try.ntmps32
  obtain ⟨wb1, hw1⟩ : ∃ wb1 : World, wb1 = w.alloc (.cells #[.int .i64 n, .slice a ls.length c] 29) := ⟨_, rfl⟩
  have z1 : wb1.heap.size = w.heap.size + 1 := by rw [hw1]; simp
  have x0_0 := (by rw [hw1]; exact cell_new _ _ _ rfl rfl : wb1.cell? ⟨w.heap.size, 0, none⟩ = some (.int .i64 n))
  have x0_1 := (by rw [hw1]; exact cell_new _ _ _ rfl rfl : wb1.cell? ⟨w.heap.size, 1, none⟩ = some (.slice a ls.length c))
  have HB0 := Lib.hid (show Below w.heap.size w wb1 by rw [hw1]; exact (Below.refl w.heap.size w).alloc (Nat.le_refl _) _)
  have s1 : w.heap.size + 1 ≤ wb1.heap.size := by omega
  have HZ1 := Lib.hid z1
  clear z1
  go_wp2_with fail
  rw [← hw1]
  clear hw1
  refine (spec_good a ls c n wb1 (Hhr.out.below HB0.out) hn Hhm.out false HK).mono ?_
  rintro e w2 ⟨rfl, hb⟩
  replace x0_0 := cell_below hb x0_0 (by omega)
  replace x0_1 := cell_below hb x0_1 (by omega)
  have s2 : w.heap.size + 1 ≤ w2.heap.size := by have := hb.size; omega
  have HB2 := Lib.hid (HB0.out.trans (hb.mono (by omega)))
  clear hb
  go_wp2_with fail
  go_ret2
  exact ⟨rfl, HB2.out⟩
set_option maxRecDepth 100000 in
set_option maxHeartbeats 1600000 in
theorem impl_count_no (a : Option Addr) (ls : List (List (List Int × Int))) (c : Nat) (n : Int) (w : World) (hr : ReadsL w a ls) (hn : ls.length ≤ 1048576) (hm : ∀ x ∈ ls, x.length ≤ 1048576 ∧ ∀ y ∈ x, y.1.length ≤ 1048576) (hk : netB n ls = false) :
    Calls Try.prog 33 #[.agg #[.int .i64 n, .slice a ls.length c]] w (RetNB 0 false w) := by
  have Hhr := Lib.hid hr
  have Hhm := Lib.hid hm
  clear hr hm
  have HK := Lib.hid hk
  clear hk
  go_enter Try.func33, Try.ntmps33
  obtain ⟨wb1, hw1⟩ : ∃ wb1 : World, wb1 = w.alloc (.cells #[.int .i64 n, .slice a ls.length c] 29) := ⟨_, rfl⟩
  have z1 : wb1.heap.size = w.heap.size + 1 := by rw [hw1]; simp
  have x0_0 := (by rw [hw1]; exact cell_new _ _ _ rfl rfl : wb1.cell? ⟨w.heap.size, 0, none⟩ = some (.int .i64 n))
  have x0_1 := (by rw [hw1]; exact cell_new _ _ _ rfl rfl : wb1.cell? ⟨w.heap.size, 1, none⟩ = some (.slice a ls.length c))
  have HB0 := Lib.hid (show Below w.heap.size w wb1 by rw [hw1]; exact (Below.refl w.heap.size w).alloc (Nat.le_refl _) _)
  have s1 : w.heap.size + 1 ≤ wb1.heap.size := by omega
  have HZ1 := Lib.hid z1
  clear z1
  go_wp2_with fail
  rw [← hw1]
  clear hw1
  refine (impl_net a ls c n wb1 (Hhr.out.below HB0.out) hn Hhm.out false HK).mono ?_
  rintro e w2 ⟨rfl, hb⟩
  replace x0_0 := cell_below hb x0_0 (by omega)
  replace x0_1 := cell_below hb x0_1 (by omega)
  have s2 : w.heap.size + 1 ≤ w2.heap.size := by have := hb.size; omega
  have HB2 := Lib.hid (HB0.out.trans (hb.mono (by omega)))
  clear hb
  go_wp2_with fail
  go_ret2
  exact ⟨rfl, HB2.out⟩
theorem flat_le (ls : List (List (List Int × Int))) (k : Nat) : (ls.take k).flatten.length ≤ ls.flatten.length := by
  induction ls generalizing k with
  | nil => simp
  | cons x r ih =>
    cases k with
    | zero => simp
    | succ k =>
      have := ih k
      simp only [List.take_succ_cons, List.flatten_cons, List.length_append] at *
      omega
set_option maxRecDepth 100000 in
set_option maxHeartbeats 1600000 in
theorem spec_count_yes (a : Option Addr) (ls : List (List (List Int × Int))) (c : Nat) (n : Int) (w : World) (hr : ReadsL w a ls) (hn : ls.length ≤ 1048576) (hm : ∀ x ∈ ls, x.length ≤ 1048576 ∧ ∀ y ∈ x, y.1.length ≤ 1048576) (hk : netB n ls = true) :
    Calls Try.prog 32 #[.agg #[.int .i64 n, .slice a ls.length c]] w (RetNB ((gates ls : Nat) : Int) true w) := by
  have Hhr := Lib.hid hr
  have Hhm := Lib.hid hm
  clear hr hm
  have HK := Lib.hid hk
  have hfl := flat_sum n hk
  have HGT := Lib.hid (show gates ls = ls.flatten.length from rfl)
  rw [← HGT.out] at hfl
  generalize gates ls = G at *
  have hl6 := net_len hk
  have HLY := Lib.hid (fun i hi => net_lay hk i hi)
  clear hk
  go_enter Try.func32, Try.ntmps32
  obtain ⟨wb1, hw1⟩ : ∃ wb1 : World, wb1 = w.alloc (.cells #[.int .i64 n, .slice a ls.length c] 29) := ⟨_, rfl⟩
  have z1 : wb1.heap.size = w.heap.size + 1 := by rw [hw1]; simp
  have x0_0 := (by rw [hw1]; exact cell_new _ _ _ rfl rfl : wb1.cell? ⟨w.heap.size, 0, none⟩ = some (.int .i64 n))
  have x0_1 := (by rw [hw1]; exact cell_new _ _ _ rfl rfl : wb1.cell? ⟨w.heap.size, 1, none⟩ = some (.slice a ls.length c))
  have HB0 := Lib.hid (show Below w.heap.size w wb1 by rw [hw1]; exact (Below.refl w.heap.size w).alloc (Nat.le_refl _) _)
  have s1 : w.heap.size + 1 ≤ wb1.heap.size := by omega
  have HZ1 := Lib.hid z1
  clear z1
  go_wp2_with fail
  rw [← hw1]
  clear hw1
  refine (spec_good a ls c n wb1 (Hhr.out.below HB0.out) hn Hhm.out true HK).mono ?_
  rintro e w2 ⟨rfl, hb⟩
  replace x0_0 := cell_below hb x0_0 (by omega)
  replace x0_1 := cell_below hb x0_1 (by omega)
  have s2 : w.heap.size + 1 ≤ w2.heap.size := by have := hb.size; omega
  have HB2 := Lib.hid (HB0.out.trans (hb.mono (by omega)))
  clear hb
  go_wp2_with fail
  go_loop [4, 5] (fun s i => ∃ k : Nat, k ≤ ls.length ∧ i = .int .i64 k ∧ s = .int .i64 (((ls.take k).flatten.length : Nat) : Int)) (fun _ i => ls.length - (intOf i).toNat)
  case atStart => exact ⟨0, by omega, rfl, rfl⟩
  case round =>
    obtain ⟨k, hk, rfl, rfl⟩ := hrel
    by_cases hlt : k < ls.length
    · obtain ⟨b, off, p, q, rfl, hb, hc, hpq, hrow⟩ := (Hhr.out.below HB2.out).at hlt
      have HS := Lib.hid (show (ls.take (k + 1)).flatten.length = (ls.take k).flatten.length + (ls.getD k []).length by rw [take_snocL ls k hlt, List.flatten_append, List.length_append]; simp)
      have hle := flat_le ls (k + 1)
      rw [← HGT.out] at hle
      have hly := (HLY.out k hlt).2
      rw [HS.out] at hle
      clear hrow hpq
      generalize (ls.take k).flatten.length = s at *
      generalize ls.getD k [] = l at *
      go_wp2_with fail
      go_round
      case rel => exact ⟨k + 1, by omega, by go_num, by rw [HS.out]; go_num⟩
      case measure => simp [intOf]; omega
    · obtain rfl : k = ls.length := by omega
      rw [List.take_length, ← HGT.out]
      go_wp2_with fail
      go_ret2
      exact ⟨rfl, HB2.out⟩
set_option maxRecDepth 100000 in
set_option maxHeartbeats 1600000 in
theorem impl_count_yes (a : Option Addr) (ls : List (List (List Int × Int))) (c : Nat) (n : Int) (w : World) (hr : ReadsL w a ls) (hn : ls.length ≤ 1048576) (hm : ∀ x ∈ ls, x.length ≤ 1048576 ∧ ∀ y ∈ x, y.1.length ≤ 1048576) (hk : netB n ls = true) :
    Calls Try.prog 33 #[.agg #[.int .i64 n, .slice a ls.length c]] w (RetNB ((gates ls : Nat) : Int) true w) := by
  have Hhr := Lib.hid hr
  have Hhm := Lib.hid hm
  clear hr hm
  have HK := Lib.hid hk
  have hfl := flat_sum n hk
  have HGT := Lib.hid (show gates ls = ls.flatten.length from rfl)
  rw [← HGT.out] at hfl
  generalize gates ls = G at *
  have hl6 := net_len hk
  have HLY := Lib.hid (fun i hi => (net_lay hk i hi).1)
  clear hk
  go_enter Try.func33, Try.ntmps33
  obtain ⟨wb1, hw1⟩ : ∃ wb1 : World, wb1 = w.alloc (.cells #[.int .i64 n, .slice a ls.length c] 29) := ⟨_, rfl⟩
  have z1 : wb1.heap.size = w.heap.size + 1 := by rw [hw1]; simp
  have x0_0 := (by rw [hw1]; exact cell_new _ _ _ rfl rfl : wb1.cell? ⟨w.heap.size, 0, none⟩ = some (.int .i64 n))
  have x0_1 := (by rw [hw1]; exact cell_new _ _ _ rfl rfl : wb1.cell? ⟨w.heap.size, 1, none⟩ = some (.slice a ls.length c))
  have HB0 := Lib.hid (show Below w.heap.size w wb1 by rw [hw1]; exact (Below.refl w.heap.size w).alloc (Nat.le_refl _) _)
  have s1 : w.heap.size + 1 ≤ wb1.heap.size := by omega
  have HZ1 := Lib.hid z1
  clear z1
  go_wp2_with fail
  rw [← hw1]
  clear hw1
  refine (impl_net a ls c n wb1 (Hhr.out.below HB0.out) hn Hhm.out true HK).mono ?_
  rintro e w2 ⟨rfl, hb⟩
  replace x0_0 := cell_below hb x0_0 (by omega)
  replace x0_1 := cell_below hb x0_1 (by omega)
  have s2 : w.heap.size + 1 ≤ w2.heap.size := by have := hb.size; omega
  have HB2 := Lib.hid (HB0.out.trans (hb.mono (by omega)))
  clear hb
  go_wp2_with fail
  refine (concatL a ls c w2 (Hhr.out.below HB2.out) hl6.1 (by omega) HLY.out (by rw [← HGT.out]; omega)).mono ?_
  rintro e w3 ⟨p, c', rfl, _, _, hb3⟩
  rw [← HGT.out]
  have HB3 := Lib.hid (HB2.out.trans (hb3.mono (by omega)))
  clear hb3
  go_wp2_with fail
  go_ret2
  exact ⟨rfl, HB3.out⟩
end Go.Proofs.Ytoephhhofkmgjaa.countn
