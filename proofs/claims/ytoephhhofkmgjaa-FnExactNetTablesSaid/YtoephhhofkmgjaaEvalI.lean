/- The walk of the program's EvaluateNet. -/
import Derived.Test.YtoephhhofkmgjaaGiveI
import Derived.Test.YtoephhhofkmgjaaGiveS
import Derived.Deep.RegionHeld3
namespace Go.Proofs.Ytoephhhofkmgjaa.evali
open Go.RowKit own pp nums planes netp netb givep dots range mk givei
set_option linter.unusedVariables false
set_option linter.unusedSimpArgs false

theorem all_of {n : Int} {ls : List (List (List Int × Int))} {xs : List Int} (h : netB n ls = true) (hx : (xs.length : Int) = n) (k : Nat) (hk : k ≤ ls.length) : All (ls.take k).reverse xs := by
  induction k with
  | zero => exact trivial
  | succ k ih =>
    rw [take_snocL ls k (by omega), List.reverse_append]
    refine ⟨(net_lay h k (by omega)).2, ?_, ih (by omega)⟩
    show Suits (ls.getD k []) (runR (ls.take k).reverse xs)
    rw [runR_to ls xs k (by omega)]
    exact run_suits h hx k (by omega)
theorem row_of {n : Int} {xs : List Int} (h1 : (xs.length : Int) = n) : rowsB' n xs = numsR 0 1 xs := by
  unfold rowsB'; rw [decide_eq_true h1, Bool.and_true]
theorem row_ne {n : Int} {xs : List Int} (h1 : (xs.length : Int) ≠ n) : rowsB' n xs = false := by
  unfold rowsB'; rw [decide_eq_false h1, Bool.and_false]
theorem own_row {xs : List Int} (h : numsR 0 1 xs = true) : numsB 1 xs = true := all_true _ 0 _ fun k hk => by
  have := numsR_at h k hk
  rw [inB_iff]; omega
set_option maxRecDepth 100000 in
set_option maxHeartbeats 1600000 in
theorem impl_ev_no (a : Option Addr) (ls : List (List (List Int × Int))) (c : Nat) (n : Int) (a' : Option Addr) (xs : List Int) (c' : Nat) (w : World) (hr : ReadsL w a ls) (hn : ls.length ≤ 1048576) (hm : ∀ x ∈ ls, x.length ≤ 1048576 ∧ ∀ y ∈ x, y.1.length ≤ 1048576) (hx : ints.Reads .i64 w a' xs) (hxl : xs.length ≤ 1048576) (h : evB n ls xs = false) :
    Calls Try.prog 22 #[.agg #[.int .i64 n, .slice a ls.length c], .slice a' xs.length c'] w (RetIB [] false w) := by
  have Hhr := Lib.hid hr
  have Hhm := Lib.hid hm
  have Hhx := Lib.hid hx
  clear hr hm hx
  cases hk : netB n ls
  · have HK := Lib.hid hk
    clear hk h
    go_enter Try.func22, Try.ntmps22
    obtain ⟨wb1, hw1⟩ : ∃ wb1 : World, wb1 = w.alloc (.cells #[.int .i64 n, .slice a ls.length c] 29) := ⟨_, rfl⟩
    have z1 : wb1.heap.size = w.heap.size + 1 := by rw [hw1]; simp
    have x0_0 := (by rw [hw1]; exact cell_new _ _ _ rfl rfl : wb1.cell? ⟨w.heap.size, 0, none⟩ = some (.int .i64 n))
    have x0_1 := (by rw [hw1]; exact cell_new _ _ _ rfl rfl : wb1.cell? ⟨w.heap.size, 1, none⟩ = some (.slice a ls.length c))
    have HB0 := Lib.hid (show Below w.heap.size w wb1 by rw [hw1]; exact (Below.refl w.heap.size w).alloc (Nat.le_refl _) _)
    have s1 : w.heap.size + 1 ≤ wb1.heap.size := by omega
    have HZ1 := Lib.hid z1
    clear z1
    go_wp2_with fail
    rw [← hw1]
    clear hw1
    refine (impl_net a ls c n wb1 (Hhr.out.below HB0.out) hn Hhm.out false HK).mono ?_
    rintro e w2 ⟨rfl, hb⟩
    replace x0_0 := cell_below hb x0_0 (by omega)
    replace x0_1 := cell_below hb x0_1 (by omega)
    have s2 : w.heap.size + 1 ≤ w2.heap.size := by have := hb.size; omega
    have HB2 := Lib.hid (HB0.out.trans (hb.mono (by omega)))
    clear hb
    go_wp2_with fail
    go_ret2
    exact ret_empty HB2.out
  · have HK := Lib.hid hk
    have hrow : rowsB' n xs = false := by rw [← h]; unfold evB; rw [hk]; rfl
    clear hk h
    by_cases hl : (xs.length : Int) = n
    · have HNR := Lib.hid (show numsR 0 1 xs = false by rw [← row_of hl]; exact hrow)
      have g1 : ((xs.length : Int) != n) = false := by simpa using hl
      clear hl hrow
      go_enter Try.func22, Try.ntmps22
      obtain ⟨wb1, hw1⟩ : ∃ wb1 : World, wb1 = w.alloc (.cells #[.int .i64 n, .slice a ls.length c] 29) := ⟨_, rfl⟩
      have z1 : wb1.heap.size = w.heap.size + 1 := by rw [hw1]; simp
      have x0_0 := (by rw [hw1]; exact cell_new _ _ _ rfl rfl : wb1.cell? ⟨w.heap.size, 0, none⟩ = some (.int .i64 n))
      have x0_1 := (by rw [hw1]; exact cell_new _ _ _ rfl rfl : wb1.cell? ⟨w.heap.size, 1, none⟩ = some (.slice a ls.length c))
      have HB0 := Lib.hid (show Below w.heap.size w wb1 by rw [hw1]; exact (Below.refl w.heap.size w).alloc (Nat.le_refl _) _)
      have s1 : w.heap.size + 1 ≤ wb1.heap.size := by omega
      have HZ1 := Lib.hid z1
      clear z1
      go_wp2_with fail
      rw [← hw1]
      clear hw1
      refine (impl_net a ls c n wb1 (Hhr.out.below HB0.out) hn Hhm.out true HK).mono ?_
      rintro e w2 ⟨rfl, hb⟩
      replace x0_0 := cell_below hb x0_0 (by omega)
      replace x0_1 := cell_below hb x0_1 (by omega)
      have s2 : w.heap.size + 1 ≤ w2.heap.size := by have := hb.size; omega
      have HB2 := Lib.hid (HB0.out.trans (hb.mono (by omega)))
      clear hb
      go_wp2_with fail
      refine (impl_bits a' xs c' w2 (Hhx.out.below HB2.out) hxl false HNR).mono ?_
      rintro e w' ⟨rfl, m9, rfl⟩
      have hb9 := ints.below_drewN (Below.refl w2.heap.size w2) m9
      replace x0_0 := cell_below hb9 x0_0 (by omega)
      replace x0_1 := cell_below hb9 x0_1 (by omega)
      have HB3 := Lib.hid (HB2.out.trans (hb9.mono (by omega)))
      have s3 := hb9.size
      generalize hw9 : w2.drewN m9 = w3 at *
      clear hw9 hb9
      go_wp2_with fail
      go_ret2
      exact ret_empty HB3.out
    · have g1 : ((xs.length : Int) != n) = true := by simpa using hl
      clear hl hrow
      go_enter Try.func22, Try.ntmps22
      obtain ⟨wb1, hw1⟩ : ∃ wb1 : World, wb1 = w.alloc (.cells #[.int .i64 n, .slice a ls.length c] 29) := ⟨_, rfl⟩
      have z1 : wb1.heap.size = w.heap.size + 1 := by rw [hw1]; simp
      have x0_0 := (by rw [hw1]; exact cell_new _ _ _ rfl rfl : wb1.cell? ⟨w.heap.size, 0, none⟩ = some (.int .i64 n))
      have x0_1 := (by rw [hw1]; exact cell_new _ _ _ rfl rfl : wb1.cell? ⟨w.heap.size, 1, none⟩ = some (.slice a ls.length c))
      have HB0 := Lib.hid (show Below w.heap.size w wb1 by rw [hw1]; exact (Below.refl w.heap.size w).alloc (Nat.le_refl _) _)
      have s1 : w.heap.size + 1 ≤ wb1.heap.size := by omega
      have HZ1 := Lib.hid z1
      clear z1
      go_wp2_with fail
      rw [← hw1]
      clear hw1
      refine (impl_net a ls c n wb1 (Hhr.out.below HB0.out) hn Hhm.out true HK).mono ?_
      rintro e w2 ⟨rfl, hb⟩
      replace x0_0 := cell_below hb x0_0 (by omega)
      replace x0_1 := cell_below hb x0_1 (by omega)
      have s2 : w.heap.size + 1 ≤ w2.heap.size := by have := hb.size; omega
      have HB2 := Lib.hid (HB0.out.trans (hb.mono (by omega)))
      clear hb
      go_wp2_with fail
      go_ret2
      exact ret_empty HB2.out
set_option maxRecDepth 100000 in
set_option maxHeartbeats 1600000 in
theorem impl_ev_yes (a : Option Addr) (ls : List (List (List Int × Int))) (c : Nat) (n : Int) (a' : Option Addr) (xs : List Int) (c' : Nat) (w : World) (hr : ReadsL w a ls) (hn : ls.length ≤ 1048576) (hm : ∀ x ∈ ls, x.length ≤ 1048576 ∧ ∀ y ∈ x, y.1.length ≤ 1048576) (hx : ints.Reads .i64 w a' xs) (hxl : xs.length ≤ 1048576) (h : evB n ls xs = true) :
    Calls Try.prog 22 #[.agg #[.int .i64 n, .slice a ls.length c], .slice a' xs.length c'] w (RetIB (runTo ls xs ls.length) true w) := by
  have Hhr := Lib.hid hr
  have Hhm := Lib.hid hm
  have Hhx := Lib.hid hx
  clear hr hm hx
  have h2 := (ev_iff _ _ _).1 h
  have HK := Lib.hid h2.1
  obtain ⟨hx9, hbx⟩ := row_bits h2.2
  have HNR := Lib.hid (show numsR 0 1 xs = true by rw [← row_of hx9]; exact h2.2)
  have g1 : ((xs.length : Int) != n) = false := by simpa using hx9
  have HX9 := Lib.hid hx9
  have hl6 := net_len h2.1
  have hx4 : xs.length ≤ 4 := by have := (netB_iff _ _).1 h2.1; omega
  clear h h2 hx9
  go_enter Try.func22, Try.ntmps22
  obtain ⟨wb1, hw1⟩ : ∃ wb1 : World, wb1 = w.alloc (.cells #[.int .i64 n, .slice a ls.length c] 29) := ⟨_, rfl⟩
  have z1 : wb1.heap.size = w.heap.size + 1 := by rw [hw1]; simp
  have x0_0 := (by rw [hw1]; exact cell_new _ _ _ rfl rfl : wb1.cell? ⟨w.heap.size, 0, none⟩ = some (.int .i64 n))
  have x0_1 := (by rw [hw1]; exact cell_new _ _ _ rfl rfl : wb1.cell? ⟨w.heap.size, 1, none⟩ = some (.slice a ls.length c))
  have HB0 := Lib.hid (show Below w.heap.size w wb1 by rw [hw1]; exact (Below.refl w.heap.size w).alloc (Nat.le_refl _) _)
  have s1 : w.heap.size + 1 ≤ wb1.heap.size := by omega
  have HZ1 := Lib.hid z1
  clear z1
  go_wp2_with fail
  rw [← hw1]
  clear hw1
  refine (impl_net a ls c n wb1 (Hhr.out.below HB0.out) hn Hhm.out true HK).mono ?_
  rintro e w2 ⟨rfl, hb⟩
  replace x0_0 := cell_below hb x0_0 (by omega)
  replace x0_1 := cell_below hb x0_1 (by omega)
  have s2 : w.heap.size + 1 ≤ w2.heap.size := by have := hb.size; omega
  have HB2 := Lib.hid (HB0.out.trans (hb.mono (by omega)))
  clear hb
  go_wp2_with fail
  refine (impl_bits a' xs c' w2 (Hhx.out.below HB2.out) hxl true HNR).mono ?_
  rintro e w' ⟨rfl, m9, rfl⟩
  have hb9 := ints.below_drewN (Below.refl w2.heap.size w2) m9
  replace x0_0 := cell_below hb9 x0_0 (by omega)
  replace x0_1 := cell_below hb9 x0_1 (by omega)
  have HB3 := Lib.hid (HB2.out.trans (hb9.mono (by omega)))
  have s3 := hb9.size
  generalize hw9 : w2.drewN m9 = w3 at *
  clear hw9 hb9
  go_wp2_with fail
  refine (last_any a ls c n w3 (Hhr.out.below HB3.out) hn).mono ?_
  rintro e w4 ⟨p4, rfl, hst, hb4⟩
  have HST := Lib.hid hst
  have HB4 := Lib.hid (HB3.out.trans (hb4.mono (by omega)))
  have s4 := hb4.size
  clear hst hb4
  go_wp2_with fail
  refine (gives_any ls.reverse p4 a' xs c' w4 (Hhx.out.below HB4.out) HST.out (by have h9 := all_of HK.out HX9.out ls.length (Nat.le_refl _); rwa [List.take_length] at h9) hx4 hbx).mono ?_
  rintro e w5 ⟨p5, q5, rfl, _, ho5, hb5⟩
  have hrr : runR ls.reverse xs = runTo ls xs ls.length := by have h9 := runR_to ls xs ls.length (Nat.le_refl _); rwa [List.take_length] at h9
  have ho5 := ho5 (by intro e9; have e8 := congrArg List.length e9; simp at e8; rw [e8] at hl6; simp at hl6)
  rw [hrr] at ho5 ⊢
  have HF := Lib.hid (show RetIB (runTo ls xs ls.length) true w (.returned (.tuple #[.slice p5 (runTo ls xs ls.length).length q5, .bool true])) w5 from ⟨_, rfl, ho5.mono (by omega) (Nat.le_refl _), HB4.out.trans (hb5.mono (by omega))⟩)
  clear ho5 hb5 hrr
  generalize runTo ls xs ls.length = rs at *
  go_wp2_with fail
  go_ret2
  exact HF.out
end Go.Proofs.Ytoephhhofkmgjaa.evali
