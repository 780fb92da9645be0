/- Several texts in one. -/
import Derived.Test.YthohnnobahcdpaaBrG38
namespace Go.Proofs.Ythohnnobahcdpaa.stmt
open Go.RowKit own pp nums bndp bndi stmp stmo stms margin
set_option linter.unusedVariables false
set_option linter.unusedSimpArgs false

set_option maxRecDepth 100000 in
set_option maxHeartbeats 1600000 in
theorem spec_no (a : Option Addr) (rows : List (List Int)) (c : Nat) (a' : Option Addr) (zs : List Int) (c' : Nat) (w : World) (hr : grid.Reads w a rows) (hz : ints.Reads .i64 w a' zs) (hn : rows.length ≤ 1048576) (hk : zs.length ≤ 1048576) (hm : ∀ r ∈ rows, r.length ≤ 1048576) (h : hpB rows zs = false) :
    Calls Try.prog 22 #[.agg #[.slice a rows.length c, .slice a' zs.length c']] w (RetJB [] false w) := by
  have HH := Lib.hid h
  have Hhr := Lib.hid hr
  have Hhz := Lib.hid hz
  have Hhm := Lib.hid hm
  clear hr hz hm
  clear h
  go_enter Try.func22, Try.ntmps22
  obtain ⟨wb1, hw1⟩ : ∃ wb1 : World, wb1 = w.alloc (.cells #[.slice a rows.length c, .slice a' zs.length c'] 38) := ⟨_, rfl⟩
  have z1 : wb1.heap.size = w.heap.size + 1 := by rw [hw1]; simp
  have x0_0 := (by rw [hw1]; exact cell_new _ _ _ rfl rfl : wb1.cell? ⟨w.heap.size, 0, none⟩ = some (.slice a rows.length c))
  have x0_1 := (by rw [hw1]; exact cell_new _ _ _ rfl rfl : wb1.cell? ⟨w.heap.size, 1, none⟩ = some (.slice a' zs.length c'))
  have HB0 := Lib.hid (show Below w.heap.size w wb1 by rw [hw1]; exact (Below.refl w.heap.size w).alloc (Nat.le_refl _) _)
  have s1 : w.heap.size + 1 ≤ wb1.heap.size := by omega
  have HZ1 := Lib.hid z1
  clear z1
  go_wp2_with fail
  rw [← hw1]
  clear hw1
  refine (spec_some a rows c a' zs c' _ (Hhr.out.below HB0.out) (Hhz.out.below HB0.out) hn hk Hhm.out false HH).mono ?_
  rintro e w2 ⟨rfl, hb⟩
  replace x0_0 := cell_below hb x0_0 (by omega)
  replace x0_1 := cell_below hb x0_1 (by omega)
  have HB2 := Lib.hid (HB0.out.trans (hb.mono (by omega)))
  clear hb
  have HE := Lib.hid (show OwnJ w2.heap.size (w2.heap.size + 1) (w2.alloc (.cells #[] 27)) (.slice (some ⟨w2.heap.size, 0, none⟩) 0 0) [] from ⟨[], emptyJ w2⟩)
  go_wp2_with fail
  go_ret2
  exact ⟨_, rfl, HE.out.mono HB2.out.size (by simp), HB2.out.alloc HB2.out.size _⟩
set_option maxRecDepth 100000 in
set_option maxHeartbeats 1600000 in
theorem spec_yes (a : Option Addr) (rows : List (List Int)) (c : Nat) (a' : Option Addr) (zs : List Int) (c' : Nat) (w : World) (hr : grid.Reads w a rows) (hz : ints.Reads .i64 w a' zs) (hn : rows.length ≤ 1048576) (hk : zs.length ≤ 1048576) (hm : ∀ r ∈ rows, r.length ≤ 1048576) (h : hpB rows zs = true) :
    Calls Try.prog 22 #[.agg #[.slice a rows.length c, .slice a' zs.length c']] w (RetJB (stumpL rows) true w) := by
  have HH := Lib.hid h
  obtain ⟨hs9, h0⟩ := (hpB_iff _ _).1 h
  have Hhr := Lib.hid hr
  have Hhz := Lib.hid hz
  have Hhm := Lib.hid hm
  clear hr hz hm
  clear h
  go_enter Try.func22, Try.ntmps22
  obtain ⟨wb1, hw1⟩ : ∃ wb1 : World, wb1 = w.alloc (.cells #[.slice a rows.length c, .slice a' zs.length c'] 38) := ⟨_, rfl⟩
  have z1 : wb1.heap.size = w.heap.size + 1 := by rw [hw1]; simp
  have x0_0 := (by rw [hw1]; exact cell_new _ _ _ rfl rfl : wb1.cell? ⟨w.heap.size, 0, none⟩ = some (.slice a rows.length c))
  have x0_1 := (by rw [hw1]; exact cell_new _ _ _ rfl rfl : wb1.cell? ⟨w.heap.size, 1, none⟩ = some (.slice a' zs.length c'))
  have HB0 := Lib.hid (show Below w.heap.size w wb1 by rw [hw1]; exact (Below.refl w.heap.size w).alloc (Nat.le_refl _) _)
  have s1 : w.heap.size + 1 ≤ wb1.heap.size := by omega
  have HZ1 := Lib.hid z1
  clear z1
  go_wp2_with fail
  rw [← hw1]
  clear hw1
  refine (spec_some a rows c a' zs c' _ (Hhr.out.below HB0.out) (Hhz.out.below HB0.out) hn hk Hhm.out true HH).mono ?_
  rintro e w2 ⟨rfl, hb⟩
  replace x0_0 := cell_below hb x0_0 (by omega)
  replace x0_1 := cell_below hb x0_1 (by omega)
  have HB2 := Lib.hid (HB0.out.trans (hb.mono (by omega)))
  clear hb
  go_wp2_with fail
  refine (spec_stumps a rows c a' zs c' _ (Hhr.out.below HB2.out) hs9 h0).mono ?_
  rintro e w3 ⟨v, rfl, ho, hb⟩
  have HO := Lib.hid (ho.mono HB2.out.size (Nat.le_refl _))
  have HB3 := Lib.hid (HB2.out.trans (hb.mono HB2.out.size))
  clear ho hb
  go_wp2_with fail
  go_ret2
  exact ⟨v, rfl, HO.out, HB3.out⟩
theorem unit_le (n pl : Nat) (wt : Int) : (unitL n pl wt).length ≤ n := by rw [unit_length]; exact Nat.le_refl _
theorem stAt_tot (n pl : Nat) (wt : Int) (bs : List Int) : grid.tot ((stAt n pl wt bs).map Prod.fst) ≤ bs.length * n := by
  unfold stAt
  rw [List.map_map]
  induction bs with
  | nil => simp [grid.tot]
  | cons b bs ih =>
    have h : grid.tot (List.map (Prod.fst ∘ fun b => (unitL n pl wt, b)) (b :: bs)) = (unitL n pl wt).length + grid.tot (List.map (Prod.fst ∘ fun b => (unitL n pl wt, b)) bs) := by
      simp [grid.tot]
    rw [h, unit_length, List.length_cons, Nat.add_mul]
    omega
theorem tot_append (xs ys : List (List Int)) : grid.tot (xs ++ ys) = grid.tot xs + grid.tot ys := by
  unfold grid.tot
  rw [List.map_append, List.sum_append]
theorem stumpTo_tot (rows : List (List Int)) (n k : Nat) (h : rows.length ≤ 16) : grid.tot ((stumpTo rows n k).map Prod.fst) ≤ k * 34 * n := by
  induction k with
  | zero => simp [stumpTo, grid.tot]
  | succ k ih =>
    have h1 := bnds_length rows k 1 h
    have h2 := bnds_length rows k (-1) h
    have h3 := stAt_tot n k 1 (bnds rows k 1)
    have h4 := stAt_tot n k (-1) (bnds rows k (-1))
    have h5 : (bnds rows k 1).length * n ≤ 17 * n := Nat.mul_le_mul_right _ h1
    have h6 : (bnds rows k (-1)).length * n ≤ 17 * n := Nat.mul_le_mul_right _ h2
    show grid.tot ((stumpTo rows n k ++ (stAt n k 1 (bnds rows k 1) ++ stAt n k (-1) (bnds rows k (-1)))).map Prod.fst) ≤ _
    rw [List.map_append, List.map_append, tot_append, tot_append, Nat.add_mul, Nat.add_mul]
    omega
theorem row4 {rows : List (List Int)} {zs : List Int} (h : hpB rows zs = true) : (rows.getD 0 []).length ≤ 4 ∧ rows.length ≤ 16 := by
  obtain ⟨hs9, h0⟩ := (hpB_iff _ _).1 h
  have := all_at _ [] rows ((sampleB_iff _ _).1 hs9).2.2.2 0 h0
  simp only [Bool.and_eq_true, decide_eq_true_eq] at this
  exact ⟨((pointB_iff _).1 this.1).2.1, ((sampleB_iff _ _).1 hs9).1⟩
theorem stump_size {rows : List (List Int)} {zs : List Int} (h : hpB rows zs = true) : (stumpL rows).length ≤ 136 ∧ grid.tot ((stumpL rows).map Prod.fst) ≤ 544 := by
  obtain ⟨h4, h16⟩ := row4 h
  have h1 := stumpTo_length rows (rows.getD 0 []).length (rows.getD 0 []).length h16
  have h2 := stumpTo_tot rows (rows.getD 0 []).length (rows.getD 0 []).length h16
  have h3 : (rows.getD 0 []).length * 34 * (rows.getD 0 []).length ≤ 4 * 34 * 4 := Nat.mul_le_mul (Nat.mul_le_mul_right _ h4) h4
  unfold stumpL
  omega
end Go.Proofs.Ythohnnobahcdpaa.stmt
