/- The model's choices: their sides and mistakes. -/
import Derived.Test.YthohnnobahcdpaaWhere
import Derived.Test.YthohnnobahcdpaaSidesOf
import Derived.Test.YthohnnobahcdpaaOnes
import Derived.Test.YthohnnobahcdpaaRets
namespace Go.Proofs.Ythohnnobahcdpaa.chs
open Go.RowKit own pp nums pwh samplesv samplest dots both sides ones
set_option linter.unusedVariables false
set_option linter.unusedSimpArgs false

/-- The side of a choice. -/
def chSide (ws0 : List Int) (b0 : Int) (ws1 : List Int) (b1 : Int) (ws2 : List Int) (b2 : Int) (xs : List Int) : Int := if side ws0 b0 xs = 1 then side ws2 b2 xs else side ws1 b1 xs

set_option maxRecDepth 100000 in
set_option maxHeartbeats 1600000 in
theorem spec_choice (p0 : Option Addr) (ws0 : List Int) (q0 : Nat) (b0 : Int) (p1 : Option Addr) (ws1 : List Int) (q1 : Nat) (b1 : Int) (p2 : Option Addr) (ws2 : List Int) (q2 : Nat) (b2 : Int) (x : Option Addr) (xs : List Int) (d : Nat) (w : World) (h0 : ints.Reads .i64 w p0 ws0) (h1 : ints.Reads .i64 w p1 ws1) (h2 : ints.Reads .i64 w p2 ws2) (hx : ints.Reads .i64 w x xs) (h4 : xs.length ≤ 4) (hl0 : xs.length = ws0.length) (hS0 : Small ws0 xs) (hl1 : xs.length = ws1.length) (hS1 : Small ws1 xs) (hl2 : xs.length = ws2.length) (hS2 : Small ws2 xs) :
    Calls Try.prog 102 #[.agg #[.slice p0 ws0.length q0, .int .i64 b0], .agg #[.slice p1 ws1.length q1, .int .i64 b1], .agg #[.slice p2 ws2.length q2, .int .i64 b2], .slice x xs.length d] w (RetN (chSide ws0 b0 ws1 b1 ws2 b2 xs) w) := by
  have HS0 := Lib.hid (fun (wa : World) (hb : Below w.heap.size w wa) => spec_side p0 ws0 q0 b0 x xs d wa (h0.below hb) (hx.below hb) (by omega) (Nat.le_of_eq hl0.symm) (by omega) hS0)
  have HS1 := Lib.hid (fun (wa : World) (hb : Below w.heap.size w wa) => spec_side p1 ws1 q1 b1 x xs d wa (h1.below hb) (hx.below hb) (by omega) (Nat.le_of_eq hl1.symm) (by omega) hS1)
  have HS2 := Lib.hid (fun (wa : World) (hb : Below w.heap.size w wa) => spec_side p2 ws2 q2 b2 x xs d wa (h2.below hb) (hx.below hb) (by omega) (Nat.le_of_eq hl2.symm) (by omega) hS2)
  clear h0 hS0 hl0 h1 hS1 hl1 h2 hS2 hl2 hx h4
  cases hc : (side ws0 b0 xs == 1)
  · have e9 : chSide ws0 b0 ws1 b1 ws2 b2 xs = side ws1 b1 xs := by unfold chSide; rw [if_neg (by simpa using hc)]
    rw [e9]
    clear e9
    go_enter Try.func102, Try.ntmps102
    obtain ⟨wb1, hw1⟩ : ∃ wb1 : World, wb1 = w.alloc (.cells #[.slice p0 ws0.length q0, .int .i64 b0] 27) := ⟨_, rfl⟩
    obtain ⟨wb2, hw2⟩ : ∃ wb2 : World, wb2 = wb1.alloc (.cells #[.slice p1 ws1.length q1, .int .i64 b1] 27) := ⟨_, rfl⟩
    obtain ⟨wb3, hw3⟩ : ∃ wb3 : World, wb3 = wb2.alloc (.cells #[.slice p2 ws2.length q2, .int .i64 b2] 27) := ⟨_, rfl⟩
    have z1 : wb1.heap.size = w.heap.size + 1 := by rw [hw1]; simp
    have z2 : wb2.heap.size = w.heap.size + 2 := by rw [hw2]; simp; omega
    have z3 : wb3.heap.size = w.heap.size + 3 := by rw [hw3]; simp; omega
    have x0_0 := (by rw [hw3]; exact cell_old _ (by rw [hw2]; exact cell_old _ (by rw [hw1]; exact cell_new _ _ _ rfl rfl : wb1.cell? ⟨w.heap.size, 0, none⟩ = some (.slice p0 ws0.length q0)) : wb2.cell? ⟨w.heap.size, 0, none⟩ = some (.slice p0 ws0.length q0)) : wb3.cell? ⟨w.heap.size, 0, none⟩ = some (.slice p0 ws0.length q0))
    have x0_1 := (by rw [hw3]; exact cell_old _ (by rw [hw2]; exact cell_old _ (by rw [hw1]; exact cell_new _ _ _ rfl rfl : wb1.cell? ⟨w.heap.size, 1, none⟩ = some (.int .i64 b0)) : wb2.cell? ⟨w.heap.size, 1, none⟩ = some (.int .i64 b0)) : wb3.cell? ⟨w.heap.size, 1, none⟩ = some (.int .i64 b0))
    have x1_0 := (by rw [hw3]; exact cell_old _ (by rw [hw2]; exact cell_new _ _ _ z1.symm rfl : wb2.cell? ⟨w.heap.size + 1, 0, none⟩ = some (.slice p1 ws1.length q1)) : wb3.cell? ⟨w.heap.size + 1, 0, none⟩ = some (.slice p1 ws1.length q1))
    have x1_1 := (by rw [hw3]; exact cell_old _ (by rw [hw2]; exact cell_new _ _ _ z1.symm rfl : wb2.cell? ⟨w.heap.size + 1, 1, none⟩ = some (.int .i64 b1)) : wb3.cell? ⟨w.heap.size + 1, 1, none⟩ = some (.int .i64 b1))
    have x2_0 := (by rw [hw3]; exact cell_new _ _ _ z2.symm rfl : wb3.cell? ⟨w.heap.size + 2, 0, none⟩ = some (.slice p2 ws2.length q2))
    have x2_1 := (by rw [hw3]; exact cell_new _ _ _ z2.symm rfl : wb3.cell? ⟨w.heap.size + 2, 1, none⟩ = some (.int .i64 b2))
    have HB0 := Lib.hid (show Below w.heap.size w wb3 by rw [hw3]; exact (show Below w.heap.size w wb2 by rw [hw2]; exact (show Below w.heap.size w wb1 by rw [hw1]; exact (Below.refl w.heap.size w).alloc (Nat.le_refl _) _).alloc (by omega) _).alloc (by omega) _)
    have s3 : w.heap.size + 3 ≤ wb3.heap.size := by omega
    have HZ3 := Lib.hid z3
    clear z1 z2 z3
    go_wp2_with fail
    rw [← hw1, ← hw2, ← hw3]
    clear hw1 hw2 hw3
    refine (HS0.out _ HB0.out).mono ?_
    rintro e w1 ⟨rfl, hb⟩
    replace x0_0 := cell_below hb x0_0 (by omega)
    replace x0_1 := cell_below hb x0_1 (by omega)
    replace x1_0 := cell_below hb x1_0 (by omega)
    replace x1_1 := cell_below hb x1_1 (by omega)
    replace x2_0 := cell_below hb x2_0 (by omega)
    replace x2_1 := cell_below hb x2_1 (by omega)
    have HB1 := Lib.hid (HB0.out.trans (hb.mono (by omega)))
    clear hb
    generalize side ws0 b0 xs = s09 at *
    go_wp2_with fail
    refine (HS1.out _ HB1.out).mono ?_
    rintro e w2 ⟨rfl, hb⟩
    have HB2 := Lib.hid (HB1.out.trans (hb.mono HB1.out.size))
    clear hb
    generalize side ws1 b1 xs = s19 at *
    go_wp2_with fail
    go_ret
    exact ⟨rfl, HB2.out⟩
  · have e9 : chSide ws0 b0 ws1 b1 ws2 b2 xs = side ws2 b2 xs := by unfold chSide; rw [if_pos (by simpa using hc)]
    rw [e9]
    clear e9
    go_enter Try.func102, Try.ntmps102
    obtain ⟨wb1, hw1⟩ : ∃ wb1 : World, wb1 = w.alloc (.cells #[.slice p0 ws0.length q0, .int .i64 b0] 27) := ⟨_, rfl⟩
    obtain ⟨wb2, hw2⟩ : ∃ wb2 : World, wb2 = wb1.alloc (.cells #[.slice p1 ws1.length q1, .int .i64 b1] 27) := ⟨_, rfl⟩
    obtain ⟨wb3, hw3⟩ : ∃ wb3 : World, wb3 = wb2.alloc (.cells #[.slice p2 ws2.length q2, .int .i64 b2] 27) := ⟨_, rfl⟩
    have z1 : wb1.heap.size = w.heap.size + 1 := by rw [hw1]; simp
    have z2 : wb2.heap.size = w.heap.size + 2 := by rw [hw2]; simp; omega
    have z3 : wb3.heap.size = w.heap.size + 3 := by rw [hw3]; simp; omega
    have x0_0 := (by rw [hw3]; exact cell_old _ (by rw [hw2]; exact cell_old _ (by rw [hw1]; exact cell_new _ _ _ rfl rfl : wb1.cell? ⟨w.heap.size, 0, none⟩ = some (.slice p0 ws0.length q0)) : wb2.cell? ⟨w.heap.size, 0, none⟩ = some (.slice p0 ws0.length q0)) : wb3.cell? ⟨w.heap.size, 0, none⟩ = some (.slice p0 ws0.length q0))
    have x0_1 := (by rw [hw3]; exact cell_old _ (by rw [hw2]; exact cell_old _ (by rw [hw1]; exact cell_new _ _ _ rfl rfl : wb1.cell? ⟨w.heap.size, 1, none⟩ = some (.int .i64 b0)) : wb2.cell? ⟨w.heap.size, 1, none⟩ = some (.int .i64 b0)) : wb3.cell? ⟨w.heap.size, 1, none⟩ = some (.int .i64 b0))
    have x1_0 := (by rw [hw3]; exact cell_old _ (by rw [hw2]; exact cell_new _ _ _ z1.symm rfl : wb2.cell? ⟨w.heap.size + 1, 0, none⟩ = some (.slice p1 ws1.length q1)) : wb3.cell? ⟨w.heap.size + 1, 0, none⟩ = some (.slice p1 ws1.length q1))
    have x1_1 := (by rw [hw3]; exact cell_old _ (by rw [hw2]; exact cell_new _ _ _ z1.symm rfl : wb2.cell? ⟨w.heap.size + 1, 1, none⟩ = some (.int .i64 b1)) : wb3.cell? ⟨w.heap.size + 1, 1, none⟩ = some (.int .i64 b1))
    have x2_0 := (by rw [hw3]; exact cell_new _ _ _ z2.symm rfl : wb3.cell? ⟨w.heap.size + 2, 0, none⟩ = some (.slice p2 ws2.length q2))
    have x2_1 := (by rw [hw3]; exact cell_new _ _ _ z2.symm rfl : wb3.cell? ⟨w.heap.size + 2, 1, none⟩ = some (.int .i64 b2))
    have HB0 := Lib.hid (show Below w.heap.size w wb3 by rw [hw3]; exact (show Below w.heap.size w wb2 by rw [hw2]; exact (show Below w.heap.size w wb1 by rw [hw1]; exact (Below.refl w.heap.size w).alloc (Nat.le_refl _) _).alloc (by omega) _).alloc (by omega) _)
    have s3 : w.heap.size + 3 ≤ wb3.heap.size := by omega
    have HZ3 := Lib.hid z3
    clear z1 z2 z3
    go_wp2_with fail
    rw [← hw1, ← hw2, ← hw3]
    clear hw1 hw2 hw3
    refine (HS0.out _ HB0.out).mono ?_
    rintro e w1 ⟨rfl, hb⟩
    replace x0_0 := cell_below hb x0_0 (by omega)
    replace x0_1 := cell_below hb x0_1 (by omega)
    replace x1_0 := cell_below hb x1_0 (by omega)
    replace x1_1 := cell_below hb x1_1 (by omega)
    replace x2_0 := cell_below hb x2_0 (by omega)
    replace x2_1 := cell_below hb x2_1 (by omega)
    have HB1 := Lib.hid (HB0.out.trans (hb.mono (by omega)))
    clear hb
    generalize side ws0 b0 xs = s09 at *
    go_wp2_with fail
    refine (HS2.out _ HB1.out).mono ?_
    rintro e w2 ⟨rfl, hb⟩
    have HB2 := Lib.hid (HB1.out.trans (hb.mono HB1.out.size))
    clear hb
    generalize side ws2 b2 xs = s29 at *
    go_wp2_with fail
    go_ret
    exact ⟨rfl, HB2.out⟩
set_option maxRecDepth 100000 in
set_option maxHeartbeats 1600000 in
theorem spec_missed (a : Option Addr) (rows : List (List Int)) (c : Nat) (a' : Option Addr) (zs : List Int) (c' : Nat) (p0 : Option Addr) (ws0 : List Int) (q0 : Nat) (b0 : Int) (p1 : Option Addr) (ws1 : List Int) (q1 : Nat) (b1 : Int) (p2 : Option Addr) (ws2 : List Int) (q2 : Nat) (b2 : Int)  (ss : Nat → Int) (w : World) (hr : grid.Reads w a rows) (hz : ints.Reads .i64 w a' zs) (hl : zs.length = rows.length) (h16 : rows.length ≤ 16)
    (HD : Hid (∀ (k : Nat) (wa : World) (rp : Option Addr) (rq : Nat), k < rows.length → Below w.heap.size w wa → ints.Reads .i64 wa rp (rows.getD k []) → Calls Try.prog 102 #[.agg #[.slice p0 ws0.length q0, .int .i64 b0], .agg #[.slice p1 ws1.length q1, .int .i64 b1], .agg #[.slice p2 ws2.length q2, .int .i64 b2], .slice rp (rows.getD k []).length rq] wa (RetN (ss k) wa))) :
    Calls Try.prog 103 #[.agg #[.slice a rows.length c, .slice a' zs.length c'], .agg #[.slice p0 ws0.length q0, .int .i64 b0], .agg #[.slice p1 ws1.length q1, .int .i64 b1], .agg #[.slice p2 ws2.length q2, .int .i64 b2]] w (intfns.Made (placesTo (fun k => ss k != zs.getD k 0) rows.length) w) := by
  obtain ⟨i0, hi, hz0, hz1, hz2⟩ := info_parts mk.infoInt
  have Hhr := Lib.hid hr
  have Hhz := Lib.hid hz
  have Hhl := Lib.hid hl
  clear hr hz hl
  go_enter Try.func103, Try.ntmps103
  obtain ⟨wb1, hw1⟩ : ∃ wb1 : World, wb1 = w.alloc (.cells #[.slice a rows.length c, .slice a' zs.length c'] 38) := ⟨_, rfl⟩
  obtain ⟨wb2, hw2⟩ : ∃ wb2 : World, wb2 = wb1.alloc (.cells #[.slice p0 ws0.length q0, .int .i64 b0] 27) := ⟨_, rfl⟩
  obtain ⟨wb3, hw3⟩ : ∃ wb3 : World, wb3 = wb2.alloc (.cells #[.slice p1 ws1.length q1, .int .i64 b1] 27) := ⟨_, rfl⟩
  obtain ⟨wb4, hw4⟩ : ∃ wb4 : World, wb4 = wb3.alloc (.cells #[.slice p2 ws2.length q2, .int .i64 b2] 27) := ⟨_, rfl⟩
  have z1 : wb1.heap.size = w.heap.size + 1 := by rw [hw1]; simp
  have z2 : wb2.heap.size = w.heap.size + 2 := by rw [hw2]; simp; omega
  have z3 : wb3.heap.size = w.heap.size + 3 := by rw [hw3]; simp; omega
  have z4 : wb4.heap.size = w.heap.size + 4 := by rw [hw4]; simp; omega
  have x0_0 := (by rw [hw4]; exact cell_old _ (by rw [hw3]; exact cell_old _ (by rw [hw2]; exact cell_old _ (by rw [hw1]; exact cell_new _ _ _ rfl rfl : wb1.cell? ⟨w.heap.size, 0, none⟩ = some (.slice a rows.length c)) : wb2.cell? ⟨w.heap.size, 0, none⟩ = some (.slice a rows.length c)) : wb3.cell? ⟨w.heap.size, 0, none⟩ = some (.slice a rows.length c)) : wb4.cell? ⟨w.heap.size, 0, none⟩ = some (.slice a rows.length c))
  have x0_1 := (by rw [hw4]; exact cell_old _ (by rw [hw3]; exact cell_old _ (by rw [hw2]; exact cell_old _ (by rw [hw1]; exact cell_new _ _ _ rfl rfl : wb1.cell? ⟨w.heap.size, 1, none⟩ = some (.slice a' zs.length c')) : wb2.cell? ⟨w.heap.size, 1, none⟩ = some (.slice a' zs.length c')) : wb3.cell? ⟨w.heap.size, 1, none⟩ = some (.slice a' zs.length c')) : wb4.cell? ⟨w.heap.size, 1, none⟩ = some (.slice a' zs.length c'))
  have x1_0 := (by rw [hw4]; exact cell_old _ (by rw [hw3]; exact cell_old _ (by rw [hw2]; exact cell_new _ _ _ z1.symm rfl : wb2.cell? ⟨w.heap.size + 1, 0, none⟩ = some (.slice p0 ws0.length q0)) : wb3.cell? ⟨w.heap.size + 1, 0, none⟩ = some (.slice p0 ws0.length q0)) : wb4.cell? ⟨w.heap.size + 1, 0, none⟩ = some (.slice p0 ws0.length q0))
  have x1_1 := (by rw [hw4]; exact cell_old _ (by rw [hw3]; exact cell_old _ (by rw [hw2]; exact cell_new _ _ _ z1.symm rfl : wb2.cell? ⟨w.heap.size + 1, 1, none⟩ = some (.int .i64 b0)) : wb3.cell? ⟨w.heap.size + 1, 1, none⟩ = some (.int .i64 b0)) : wb4.cell? ⟨w.heap.size + 1, 1, none⟩ = some (.int .i64 b0))
  have x2_0 := (by rw [hw4]; exact cell_old _ (by rw [hw3]; exact cell_new _ _ _ z2.symm rfl : wb3.cell? ⟨w.heap.size + 2, 0, none⟩ = some (.slice p1 ws1.length q1)) : wb4.cell? ⟨w.heap.size + 2, 0, none⟩ = some (.slice p1 ws1.length q1))
  have x2_1 := (by rw [hw4]; exact cell_old _ (by rw [hw3]; exact cell_new _ _ _ z2.symm rfl : wb3.cell? ⟨w.heap.size + 2, 1, none⟩ = some (.int .i64 b1)) : wb4.cell? ⟨w.heap.size + 2, 1, none⟩ = some (.int .i64 b1))
  have x3_0 := (by rw [hw4]; exact cell_new _ _ _ z3.symm rfl : wb4.cell? ⟨w.heap.size + 3, 0, none⟩ = some (.slice p2 ws2.length q2))
  have x3_1 := (by rw [hw4]; exact cell_new _ _ _ z3.symm rfl : wb4.cell? ⟨w.heap.size + 3, 1, none⟩ = some (.int .i64 b2))
  have HB0 := Lib.hid (show Below w.heap.size w wb4 by rw [hw4]; exact (show Below w.heap.size w wb3 by rw [hw3]; exact (show Below w.heap.size w wb2 by rw [hw2]; exact (show Below w.heap.size w wb1 by rw [hw1]; exact (Below.refl w.heap.size w).alloc (Nat.le_refl _) _).alloc (by omega) _).alloc (by omega) _).alloc (by omega) _)
  have s4 : w.heap.size + 4 ≤ wb4.heap.size := by omega
  have HZ4 := Lib.hid z4
  clear z1 z2 z3 z4
  go_wp2_with fail
  rw [← hw1, ← hw2, ← hw3, ← hw4]
  clear hw1 hw2 hw3 hw4
  rw [show w.heap.size + 1 + 1 + 1 + 1 = wb4.heap.size from HZ4.out.symm]
  have hown0 := (own_empty wb4).1
  have hb0 := below_alloc wb4 (.cells #[] 3)
  go_loopw [9, 10] (fun v i wr => ∃ (k : Nat), k ≤ rows.length ∧ i = .int .i64 k ∧ wr.ownsRow wb4.heap.size 3 1 v (placesTo (fun k => ss k != zs.getD k 0) k).length ((placesTo (fun k => ss k != zs.getD k 0) k).map (Value.int .i64)) ∧ Below wb4.heap.size wb4 wr) (fun _ i _ => rows.length - (intOf i).toNat)
  case atStart => exact ⟨0, Nat.zero_le _, rfl, hown0, hb0⟩
  case round =>
    obtain ⟨k, hk, rfl, hown, hbel⟩ := hrel
    have hvb := hown.lt
    clear hown0 hb0
    replace x0_0 := cell_below hbel x0_0 (by omega)
    replace x0_1 := cell_below hbel x0_1 (by omega)
    replace x1_0 := cell_below hbel x1_0 (by omega)
    replace x1_1 := cell_below hbel x1_1 (by omega)
    replace x2_0 := cell_below hbel x2_0 (by omega)
    replace x2_1 := cell_below hbel x2_1 (by omega)
    replace x3_0 := cell_below hbel x3_0 (by omega)
    replace x3_1 := cell_below hbel x3_1 (by omega)
    have hsz := hbel.size
    by_cases hlt : k < rows.length
    · obtain ⟨bl, off, rp, rq, hab, hbl, hc, hpq, hrow⟩ := (Hhr.out.below HB0.out).at hlt
      subst hab
      replace hc := cell_below hbel hc (by omega)
      obtain ⟨lb, lo, hlb, hll, hlc⟩ := (Hhz.out.below HB0.out).at (k := k) (by have := Hhl.out; omega)
      subst hlb
      replace hlc := cell_below hbel hlc (by omega)
      have HT := Lib.hid (show ∀ wa : World, (wa.cell? ⟨w.heap.size, 0, none⟩ = some (.slice (some ⟨bl, off, none⟩) rows.length c) ∧ wa.cell? ⟨w.heap.size, 1, none⟩ = some (.slice (some ⟨lb, lo, none⟩) zs.length c') ∧ wa.cell? ⟨w.heap.size + 1, 0, none⟩ = some (.slice p0 ws0.length q0) ∧ wa.cell? ⟨w.heap.size + 1, 1, none⟩ = some (.int .i64 b0) ∧ wa.cell? ⟨w.heap.size + 2, 0, none⟩ = some (.slice p1 ws1.length q1) ∧ wa.cell? ⟨w.heap.size + 2, 1, none⟩ = some (.int .i64 b1) ∧ wa.cell? ⟨w.heap.size + 3, 0, none⟩ = some (.slice p2 ws2.length q2) ∧ wa.cell? ⟨w.heap.size + 3, 1, none⟩ = some (.int .i64 b2) ∧ wa.cell? ⟨bl, off + k, none⟩ = some (.slice rp (rows.getD k []).length rq) ∧ wa.cell? ⟨lb, lo + k, none⟩ = some (.int .i64 (zs.getD k 0)) ∧ Below wb4.heap.size wb4 wa) → wa.ownsRow wb4.heap.size 3 1 u9 (placesTo (fun k => ss k != zs.getD k 0) k).length ((placesTo (fun k => ss k != zs.getD k 0) k).map (Value.int .i64)) →
          Calls Try.prog 102 #[.agg #[.slice p0 ws0.length q0, .int .i64 b0], .agg #[.slice p1 ws1.length q1, .int .i64 b1], .agg #[.slice p2 ws2.length q2, .int .i64 b2], .slice rp (rows.getD k []).length rq] wa fun e w' => e = .returned (.int .i64 (ss k)) ∧ w'.ownsRow wb4.heap.size 3 1 u9 (placesTo (fun k => ss k != zs.getD k 0) k).length ((placesTo (fun k => ss k != zs.getD k 0) k).map (Value.int .i64)) ∧ (w'.cell? ⟨w.heap.size, 0, none⟩ = some (.slice (some ⟨bl, off, none⟩) rows.length c) ∧ w'.cell? ⟨w.heap.size, 1, none⟩ = some (.slice (some ⟨lb, lo, none⟩) zs.length c') ∧ w'.cell? ⟨w.heap.size + 1, 0, none⟩ = some (.slice p0 ws0.length q0) ∧ w'.cell? ⟨w.heap.size + 1, 1, none⟩ = some (.int .i64 b0) ∧ w'.cell? ⟨w.heap.size + 2, 0, none⟩ = some (.slice p1 ws1.length q1) ∧ w'.cell? ⟨w.heap.size + 2, 1, none⟩ = some (.int .i64 b1) ∧ w'.cell? ⟨w.heap.size + 3, 0, none⟩ = some (.slice p2 ws2.length q2) ∧ w'.cell? ⟨w.heap.size + 3, 1, none⟩ = some (.int .i64 b2) ∧ w'.cell? ⟨bl, off + k, none⟩ = some (.slice rp (rows.getD k []).length rq) ∧ w'.cell? ⟨lb, lo + k, none⟩ = some (.int .i64 (zs.getD k 0)) ∧ Below wb4.heap.size wb4 w') from fun wa hS ho => by
        have hz := hS.2.2.2.2.2.2.2.2.2.2.size
        have hB := HB0.out.trans (hS.2.2.2.2.2.2.2.2.2.2.mono (by omega))
        refine (HD.out k wa rp rq hlt hB (hrow.below hS.2.2.2.2.2.2.2.2.2.2)).mono ?_
        rintro e w' ⟨rfl, hb⟩
        exact ⟨rfl, ownsRow_block ho (fun g hg => hb.block g (ho.lt g hg).2), cell_below hb hS.1 (by omega), cell_below hb hS.2.1 (by omega), cell_below hb hS.2.2.1 (by omega), cell_below hb hS.2.2.2.1 (by omega), cell_below hb hS.2.2.2.2.1 (by omega), cell_below hb hS.2.2.2.2.2.1 (by omega), cell_below hb hS.2.2.2.2.2.2.1 (by omega), cell_below hb hS.2.2.2.2.2.2.2.1 (by omega), cell_below hb hS.2.2.2.2.2.2.2.2.1 (by omega), cell_below hb hS.2.2.2.2.2.2.2.2.2.1 (by omega), hS.2.2.2.2.2.2.2.2.2.2.trans (hb.mono (by omega))⟩)
      have HO := Lib.hid hown
      have HV := Lib.hid hvb
      have HBl := Lib.hid hbel
      have i1 : (0 : Int) ≤ (k : Int) := by omega
      have i2 : (k : Int) < (rows.length : Int) := by omega
      have i3 : (k : Int) < (zs.length : Int) := by have := Hhl.out; omega
      clear hown hbel hrow hpq hvb
      cases hm' : (ss k != zs.getD k 0)
      · skip
        have HM := Lib.hid (placesTo_miss (fun k => ss k != zs.getD k 0) k hm')
        have g1 : (ss k != zs.getD k 0) = false := hm'
        have hlen := placesTo_length (fun k => ss k != zs.getD k 0) k
        clear hm'
        generalize rows.getD k [] = r at *
        generalize placesTo (fun k => ss k != zs.getD k 0) k = ms at *
        generalize zs.getD k 0 = z at *
        generalize ss k = s at *
        go_wp2_with fail
        go_region_held3 (fun w' => w'.cell? ⟨w.heap.size, 0, none⟩ = some (.slice (some ⟨bl, off, none⟩) rows.length c) ∧ w'.cell? ⟨w.heap.size, 1, none⟩ = some (.slice (some ⟨lb, lo, none⟩) zs.length c') ∧ w'.cell? ⟨w.heap.size + 1, 0, none⟩ = some (.slice p0 ws0.length q0) ∧ w'.cell? ⟨w.heap.size + 1, 1, none⟩ = some (.int .i64 b0) ∧ w'.cell? ⟨w.heap.size + 2, 0, none⟩ = some (.slice p1 ws1.length q1) ∧ w'.cell? ⟨w.heap.size + 2, 1, none⟩ = some (.int .i64 b1) ∧ w'.cell? ⟨w.heap.size + 3, 0, none⟩ = some (.slice p2 ws2.length q2) ∧ w'.cell? ⟨w.heap.size + 3, 1, none⟩ = some (.int .i64 b2) ∧ w'.cell? ⟨bl, off + k, none⟩ = some (.slice rp r.length rq) ∧ w'.cell? ⟨lb, lo + k, none⟩ = some (.int .i64 z) ∧ Below wb4.heap.size wb4 w') (first | assumption | exact ⟨x0_0, x0_1, x1_0, x1_1, x2_0, x2_1, x3_0, x3_1, hc, hlc, HBl.out⟩ | exact ⟨x0_0, x0_1, x1_0, x1_1, x2_0, x2_1, x3_0, x3_1, hc, hlc, HBl.out.drew⟩) (first | (go_at_call 102; refine Calls.mono (HT.out _ (by assumption) (by first | exact HO.out | exact HO.out.drew)) ?_; rintro e wq ⟨rfl, hoq, hbx⟩))
        have hbq := hbx.2.2.2.2.2.2.2.2.2.2
        have HBq := Lib.hid hbq
        have hzq := hbq.size
        clear hbq hbx
        have HOq := Lib.hid hoq
        clear hoq
        go_wp2_with fail
        go_roundw
        case rel => exact ⟨k + 1, by omega, by go_num, by rw [HM.out]; exact HOq.out, HBq.out⟩
        case measure => simp [intOf]; omega
      · skip
        have HM := Lib.hid (placesTo_hit (fun k => ss k != zs.getD k 0) k hm')
        have g1 : (ss k != zs.getD k 0) = true := hm'
        have hlen := placesTo_length (fun k => ss k != zs.getD k 0) k
        clear hm'
        generalize rows.getD k [] = r at *
        generalize placesTo (fun k => ss k != zs.getD k 0) k = ms at *
        generalize zs.getD k 0 = z at *
        generalize ss k = s at *
        go_wp2_with fail
        go_region_held3 (fun w' => w'.cell? ⟨w.heap.size, 0, none⟩ = some (.slice (some ⟨bl, off, none⟩) rows.length c) ∧ w'.cell? ⟨w.heap.size, 1, none⟩ = some (.slice (some ⟨lb, lo, none⟩) zs.length c') ∧ w'.cell? ⟨w.heap.size + 1, 0, none⟩ = some (.slice p0 ws0.length q0) ∧ w'.cell? ⟨w.heap.size + 1, 1, none⟩ = some (.int .i64 b0) ∧ w'.cell? ⟨w.heap.size + 2, 0, none⟩ = some (.slice p1 ws1.length q1) ∧ w'.cell? ⟨w.heap.size + 2, 1, none⟩ = some (.int .i64 b1) ∧ w'.cell? ⟨w.heap.size + 3, 0, none⟩ = some (.slice p2 ws2.length q2) ∧ w'.cell? ⟨w.heap.size + 3, 1, none⟩ = some (.int .i64 b2) ∧ w'.cell? ⟨bl, off + k, none⟩ = some (.slice rp r.length rq) ∧ w'.cell? ⟨lb, lo + k, none⟩ = some (.int .i64 z) ∧ Below wb4.heap.size wb4 w') (first | assumption | exact ⟨x0_0, x0_1, x1_0, x1_1, x2_0, x2_1, x3_0, x3_1, hc, hlc, HBl.out⟩ | exact ⟨x0_0, x0_1, x1_0, x1_1, x2_0, x2_1, x3_0, x3_1, hc, hlc, HBl.out.drew⟩) (first | (go_at_call 102; refine Calls.mono (HT.out _ (by assumption) (by first | exact HO.out | exact HO.out.drew)) ?_; rintro e wq ⟨rfl, hoq, hbx⟩))
        have hbq := hbx.2.2.2.2.2.2.2.2.2.2
        have HBq := Lib.hid hbq
        have hzq := hbq.size
        clear hbq hbx
        go_wp2_with (at_builtin; refine wpList_append_own _ rfl _ _ 22 rfl wb4.heap.size 3 i0 (.int .i64 0) 1 8 Try.underlying22 hi hz0 hz1 hz2 rfl (by decide) _ _ _ rfl (hoq.alloc _) ⟨wq.heap.size, 0, none⟩ 1 1 [.int .i64 (k : Nat)] rfl rfl (cell_one_new _ _ _) (by simp [Value.oneCell']) (by unfold maxLen; omega) (by omega) (by simp; omega) ?_; intro v' w2 hown' hgrow _)
        obtain ⟨g', cap', hv'⟩ := ownsRow_succ hown'
        subst hv'
        have HO2 := Lib.hid hown'
        have HB2 := Lib.hid ((HBq.out.alloc HBq.out.size _).grown hgrow (Nat.le_trans HBq.out.size (by simp)) (fun g e => (HV.out g e).1))
        clear hoq hown' hgrow
        go_wp2_with fail
        go_roundw
        case rel => exact ⟨k + 1, by omega, by go_num, by rw [HM.out, List.map_append, List.length_append]; exact HO2.out, HB2.out⟩
        case measure => simp [intOf]; omega
    · have hk' : k = rows.length := by omega
      have HF1 := Lib.hid (show intfns.Made (placesTo (fun k => ss k != zs.getD k 0) rows.length) w (.returned u9) wr from by
        refine ⟨u9, rfl, ?_, HB0.out.trans (hbel.mono (by omega))⟩
        rw [hk'] at hown
        exact (OwnI.of hown).mono (by omega) (Nat.le_refl _))
      clear hown hbel hvb hk'
      go_wp2_with fail
      go_ret
      exact HF1.out
set_option maxRecDepth 100000 in
set_option maxHeartbeats 1600000 in
theorem spec_side_no1 (p0 : Option Addr) (ws0 : List Int) (q0 : Nat) (b0 : Int) (p1 : Option Addr) (ws1 : List Int) (q1 : Nat) (b1 : Int) (p2 : Option Addr) (ws2 : List Int) (q2 : Nat) (b2 : Int) (x : Option Addr) (xs : List Int) (d : Nat) (w : World) (h0 : ints.Reads .i64 w p0 ws0) (h1 : ints.Reads .i64 w p1 ws1) (h2 : ints.Reads .i64 w p2 ws2) (hx : ints.Reads .i64 w x xs) (k0 : ws0.length ≤ 1048576) (k1 : ws1.length ≤ 1048576) (k2 : ws2.length ≤ 1048576) (kx : xs.length ≤ 1048576) (o0 : oneB ws0 b0 xs = false) :
    Calls Try.prog 55 #[.agg #[.slice p0 ws0.length q0, .int .i64 b0], .agg #[.slice p1 ws1.length q1, .int .i64 b1], .agg #[.slice p2 ws2.length q2, .int .i64 b2], .slice x xs.length d] w (RetNB 0 false w) := by
  have Hh0 := Lib.hid h0
  have Hh1 := Lib.hid h1
  have Hh2 := Lib.hid h2
  have Hhx := Lib.hid hx
  clear h0 h1 h2 hx
  have HO0 := Lib.hid o0
  clear o0
  go_enter Try.func55, Try.ntmps55
  obtain ⟨wb1, hw1⟩ : ∃ wb1 : World, wb1 = w.alloc (.cells #[.slice p0 ws0.length q0, .int .i64 b0] 27) := ⟨_, rfl⟩
  obtain ⟨wb2, hw2⟩ : ∃ wb2 : World, wb2 = wb1.alloc (.cells #[.slice p1 ws1.length q1, .int .i64 b1] 27) := ⟨_, rfl⟩
  obtain ⟨wb3, hw3⟩ : ∃ wb3 : World, wb3 = wb2.alloc (.cells #[.slice p2 ws2.length q2, .int .i64 b2] 27) := ⟨_, rfl⟩
  have z1 : wb1.heap.size = w.heap.size + 1 := by rw [hw1]; simp
  have z2 : wb2.heap.size = w.heap.size + 2 := by rw [hw2]; simp; omega
  have z3 : wb3.heap.size = w.heap.size + 3 := by rw [hw3]; simp; omega
  have x0_0 := (by rw [hw3]; exact cell_old _ (by rw [hw2]; exact cell_old _ (by rw [hw1]; exact cell_new _ _ _ rfl rfl : wb1.cell? ⟨w.heap.size, 0, none⟩ = some (.slice p0 ws0.length q0)) : wb2.cell? ⟨w.heap.size, 0, none⟩ = some (.slice p0 ws0.length q0)) : wb3.cell? ⟨w.heap.size, 0, none⟩ = some (.slice p0 ws0.length q0))
  have x0_1 := (by rw [hw3]; exact cell_old _ (by rw [hw2]; exact cell_old _ (by rw [hw1]; exact cell_new _ _ _ rfl rfl : wb1.cell? ⟨w.heap.size, 1, none⟩ = some (.int .i64 b0)) : wb2.cell? ⟨w.heap.size, 1, none⟩ = some (.int .i64 b0)) : wb3.cell? ⟨w.heap.size, 1, none⟩ = some (.int .i64 b0))
  have x1_0 := (by rw [hw3]; exact cell_old _ (by rw [hw2]; exact cell_new _ _ _ z1.symm rfl : wb2.cell? ⟨w.heap.size + 1, 0, none⟩ = some (.slice p1 ws1.length q1)) : wb3.cell? ⟨w.heap.size + 1, 0, none⟩ = some (.slice p1 ws1.length q1))
  have x1_1 := (by rw [hw3]; exact cell_old _ (by rw [hw2]; exact cell_new _ _ _ z1.symm rfl : wb2.cell? ⟨w.heap.size + 1, 1, none⟩ = some (.int .i64 b1)) : wb3.cell? ⟨w.heap.size + 1, 1, none⟩ = some (.int .i64 b1))
  have x2_0 := (by rw [hw3]; exact cell_new _ _ _ z2.symm rfl : wb3.cell? ⟨w.heap.size + 2, 0, none⟩ = some (.slice p2 ws2.length q2))
  have x2_1 := (by rw [hw3]; exact cell_new _ _ _ z2.symm rfl : wb3.cell? ⟨w.heap.size + 2, 1, none⟩ = some (.int .i64 b2))
  have HB0 := Lib.hid (show Below w.heap.size w wb3 by rw [hw3]; exact (show Below w.heap.size w wb2 by rw [hw2]; exact (show Below w.heap.size w wb1 by rw [hw1]; exact (Below.refl w.heap.size w).alloc (Nat.le_refl _) _).alloc (by omega) _).alloc (by omega) _)
  have s3 : w.heap.size + 3 ≤ wb3.heap.size := by omega
  have HZ3 := Lib.hid z3
  clear z1 z2 z3
  go_wp2_with fail
  rw [← hw1, ← hw2, ← hw3]
  clear hw1 hw2 hw3
  refine (spec_one p0 ws0 q0 b0 x xs d _ (Hh0.out.below HB0.out) (Hhx.out.below HB0.out) k0 kx false HO0).mono ?_
  rintro e w1 ⟨rfl, hb⟩
  have s1 : wb3.heap.size ≤ w1.heap.size := hb.size
  have n1_0 : w.heap.size < w1.heap.size := by omega
  have n1_1 : w.heap.size + 1 < w1.heap.size := by omega
  have n1_2 : w.heap.size + 2 < w1.heap.size := by omega
  replace x0_0 := cell_below hb x0_0 (by omega)
  replace x0_1 := cell_below hb x0_1 (by omega)
  replace x1_0 := cell_below hb x1_0 (by omega)
  replace x1_1 := cell_below hb x1_1 (by omega)
  replace x2_0 := cell_below hb x2_0 (by omega)
  replace x2_1 := cell_below hb x2_1 (by omega)
  have HB1 := Lib.hid (HB0.out.trans (hb.mono (by omega)))
  clear hb
  go_wp2_with fail
  go_ret2
  exact ⟨rfl, HB1.out⟩
set_option maxRecDepth 100000 in
set_option maxHeartbeats 1600000 in
theorem spec_side_no2 (p0 : Option Addr) (ws0 : List Int) (q0 : Nat) (b0 : Int) (p1 : Option Addr) (ws1 : List Int) (q1 : Nat) (b1 : Int) (p2 : Option Addr) (ws2 : List Int) (q2 : Nat) (b2 : Int) (x : Option Addr) (xs : List Int) (d : Nat) (w : World) (h0 : ints.Reads .i64 w p0 ws0) (h1 : ints.Reads .i64 w p1 ws1) (h2 : ints.Reads .i64 w p2 ws2) (hx : ints.Reads .i64 w x xs) (k0 : ws0.length ≤ 1048576) (k1 : ws1.length ≤ 1048576) (k2 : ws2.length ≤ 1048576) (kx : xs.length ≤ 1048576) (o0 : oneB ws0 b0 xs = true) (o1 : oneB ws1 b1 xs = false) :
    Calls Try.prog 55 #[.agg #[.slice p0 ws0.length q0, .int .i64 b0], .agg #[.slice p1 ws1.length q1, .int .i64 b1], .agg #[.slice p2 ws2.length q2, .int .i64 b2], .slice x xs.length d] w (RetNB 0 false w) := by
  have Hh0 := Lib.hid h0
  have Hh1 := Lib.hid h1
  have Hh2 := Lib.hid h2
  have Hhx := Lib.hid hx
  clear h0 h1 h2 hx
  have HO0 := Lib.hid o0
  have HO1 := Lib.hid o1
  clear o0 o1
  go_enter Try.func55, Try.ntmps55
  obtain ⟨wb1, hw1⟩ : ∃ wb1 : World, wb1 = w.alloc (.cells #[.slice p0 ws0.length q0, .int .i64 b0] 27) := ⟨_, rfl⟩
  obtain ⟨wb2, hw2⟩ : ∃ wb2 : World, wb2 = wb1.alloc (.cells #[.slice p1 ws1.length q1, .int .i64 b1] 27) := ⟨_, rfl⟩
  obtain ⟨wb3, hw3⟩ : ∃ wb3 : World, wb3 = wb2.alloc (.cells #[.slice p2 ws2.length q2, .int .i64 b2] 27) := ⟨_, rfl⟩
  have z1 : wb1.heap.size = w.heap.size + 1 := by rw [hw1]; simp
  have z2 : wb2.heap.size = w.heap.size + 2 := by rw [hw2]; simp; omega
  have z3 : wb3.heap.size = w.heap.size + 3 := by rw [hw3]; simp; omega
  have x0_0 := (by rw [hw3]; exact cell_old _ (by rw [hw2]; exact cell_old _ (by rw [hw1]; exact cell_new _ _ _ rfl rfl : wb1.cell? ⟨w.heap.size, 0, none⟩ = some (.slice p0 ws0.length q0)) : wb2.cell? ⟨w.heap.size, 0, none⟩ = some (.slice p0 ws0.length q0)) : wb3.cell? ⟨w.heap.size, 0, none⟩ = some (.slice p0 ws0.length q0))
  have x0_1 := (by rw [hw3]; exact cell_old _ (by rw [hw2]; exact cell_old _ (by rw [hw1]; exact cell_new _ _ _ rfl rfl : wb1.cell? ⟨w.heap.size, 1, none⟩ = some (.int .i64 b0)) : wb2.cell? ⟨w.heap.size, 1, none⟩ = some (.int .i64 b0)) : wb3.cell? ⟨w.heap.size, 1, none⟩ = some (.int .i64 b0))
  have x1_0 := (by rw [hw3]; exact cell_old _ (by rw [hw2]; exact cell_new _ _ _ z1.symm rfl : wb2.cell? ⟨w.heap.size + 1, 0, none⟩ = some (.slice p1 ws1.length q1)) : wb3.cell? ⟨w.heap.size + 1, 0, none⟩ = some (.slice p1 ws1.length q1))
  have x1_1 := (by rw [hw3]; exact cell_old _ (by rw [hw2]; exact cell_new _ _ _ z1.symm rfl : wb2.cell? ⟨w.heap.size + 1, 1, none⟩ = some (.int .i64 b1)) : wb3.cell? ⟨w.heap.size + 1, 1, none⟩ = some (.int .i64 b1))
  have x2_0 := (by rw [hw3]; exact cell_new _ _ _ z2.symm rfl : wb3.cell? ⟨w.heap.size + 2, 0, none⟩ = some (.slice p2 ws2.length q2))
  have x2_1 := (by rw [hw3]; exact cell_new _ _ _ z2.symm rfl : wb3.cell? ⟨w.heap.size + 2, 1, none⟩ = some (.int .i64 b2))
  have HB0 := Lib.hid (show Below w.heap.size w wb3 by rw [hw3]; exact (show Below w.heap.size w wb2 by rw [hw2]; exact (show Below w.heap.size w wb1 by rw [hw1]; exact (Below.refl w.heap.size w).alloc (Nat.le_refl _) _).alloc (by omega) _).alloc (by omega) _)
  have s3 : w.heap.size + 3 ≤ wb3.heap.size := by omega
  have HZ3 := Lib.hid z3
  clear z1 z2 z3
  go_wp2_with fail
  rw [← hw1, ← hw2, ← hw3]
  clear hw1 hw2 hw3
  refine (spec_one p0 ws0 q0 b0 x xs d _ (Hh0.out.below HB0.out) (Hhx.out.below HB0.out) k0 kx true HO0).mono ?_
  rintro e w1 ⟨rfl, hb⟩
  have s1 : wb3.heap.size ≤ w1.heap.size := hb.size
  have n1_0 : w.heap.size < w1.heap.size := by omega
  have n1_1 : w.heap.size + 1 < w1.heap.size := by omega
  have n1_2 : w.heap.size + 2 < w1.heap.size := by omega
  replace x0_0 := cell_below hb x0_0 (by omega)
  replace x0_1 := cell_below hb x0_1 (by omega)
  replace x1_0 := cell_below hb x1_0 (by omega)
  replace x1_1 := cell_below hb x1_1 (by omega)
  replace x2_0 := cell_below hb x2_0 (by omega)
  replace x2_1 := cell_below hb x2_1 (by omega)
  have HB1 := Lib.hid (HB0.out.trans (hb.mono (by omega)))
  clear hb
  go_wp2_with fail
  refine (spec_one p1 ws1 q1 b1 x xs d _ (Hh1.out.below HB1.out) (Hhx.out.below HB1.out) k1 kx false HO1).mono ?_
  rintro e w2 ⟨rfl, hb⟩
  have s2 : w1.heap.size ≤ w2.heap.size := hb.size
  have n2_0 : w.heap.size < w2.heap.size := by omega
  have n2_1 : w.heap.size + 1 < w2.heap.size := by omega
  have n2_2 : w.heap.size + 2 < w2.heap.size := by omega
  replace x0_0 := cell_below hb x0_0 (by omega)
  replace x0_1 := cell_below hb x0_1 (by omega)
  replace x1_0 := cell_below hb x1_0 (by omega)
  replace x1_1 := cell_below hb x1_1 (by omega)
  replace x2_0 := cell_below hb x2_0 (by omega)
  replace x2_1 := cell_below hb x2_1 (by omega)
  have HB2 := Lib.hid (HB1.out.trans (hb.mono (by omega)))
  clear hb
  go_wp2_with fail
  go_ret2
  exact ⟨rfl, HB2.out⟩
set_option maxRecDepth 100000 in
set_option maxHeartbeats 1600000 in
theorem spec_side_no3 (p0 : Option Addr) (ws0 : List Int) (q0 : Nat) (b0 : Int) (p1 : Option Addr) (ws1 : List Int) (q1 : Nat) (b1 : Int) (p2 : Option Addr) (ws2 : List Int) (q2 : Nat) (b2 : Int) (x : Option Addr) (xs : List Int) (d : Nat) (w : World) (h0 : ints.Reads .i64 w p0 ws0) (h1 : ints.Reads .i64 w p1 ws1) (h2 : ints.Reads .i64 w p2 ws2) (hx : ints.Reads .i64 w x xs) (k0 : ws0.length ≤ 1048576) (k1 : ws1.length ≤ 1048576) (k2 : ws2.length ≤ 1048576) (kx : xs.length ≤ 1048576) (o0 : oneB ws0 b0 xs = true) (o1 : oneB ws1 b1 xs = true) (o2 : oneB ws2 b2 xs = false) :
    Calls Try.prog 55 #[.agg #[.slice p0 ws0.length q0, .int .i64 b0], .agg #[.slice p1 ws1.length q1, .int .i64 b1], .agg #[.slice p2 ws2.length q2, .int .i64 b2], .slice x xs.length d] w (RetNB 0 false w) := by
  have Hh0 := Lib.hid h0
  have Hh1 := Lib.hid h1
  have Hh2 := Lib.hid h2
  have Hhx := Lib.hid hx
  clear h0 h1 h2 hx
  have HO0 := Lib.hid o0
  have HO1 := Lib.hid o1
  have HO2 := Lib.hid o2
  clear o0 o1 o2
  go_enter Try.func55, Try.ntmps55
  obtain ⟨wb1, hw1⟩ : ∃ wb1 : World, wb1 = w.alloc (.cells #[.slice p0 ws0.length q0, .int .i64 b0] 27) := ⟨_, rfl⟩
  obtain ⟨wb2, hw2⟩ : ∃ wb2 : World, wb2 = wb1.alloc (.cells #[.slice p1 ws1.length q1, .int .i64 b1] 27) := ⟨_, rfl⟩
  obtain ⟨wb3, hw3⟩ : ∃ wb3 : World, wb3 = wb2.alloc (.cells #[.slice p2 ws2.length q2, .int .i64 b2] 27) := ⟨_, rfl⟩
  have z1 : wb1.heap.size = w.heap.size + 1 := by rw [hw1]; simp
  have z2 : wb2.heap.size = w.heap.size + 2 := by rw [hw2]; simp; omega
  have z3 : wb3.heap.size = w.heap.size + 3 := by rw [hw3]; simp; omega
  have x0_0 := (by rw [hw3]; exact cell_old _ (by rw [hw2]; exact cell_old _ (by rw [hw1]; exact cell_new _ _ _ rfl rfl : wb1.cell? ⟨w.heap.size, 0, none⟩ = some (.slice p0 ws0.length q0)) : wb2.cell? ⟨w.heap.size, 0, none⟩ = some (.slice p0 ws0.length q0)) : wb3.cell? ⟨w.heap.size, 0, none⟩ = some (.slice p0 ws0.length q0))
  have x0_1 := (by rw [hw3]; exact cell_old _ (by rw [hw2]; exact cell_old _ (by rw [hw1]; exact cell_new _ _ _ rfl rfl : wb1.cell? ⟨w.heap.size, 1, none⟩ = some (.int .i64 b0)) : wb2.cell? ⟨w.heap.size, 1, none⟩ = some (.int .i64 b0)) : wb3.cell? ⟨w.heap.size, 1, none⟩ = some (.int .i64 b0))
  have x1_0 := (by rw [hw3]; exact cell_old _ (by rw [hw2]; exact cell_new _ _ _ z1.symm rfl : wb2.cell? ⟨w.heap.size + 1, 0, none⟩ = some (.slice p1 ws1.length q1)) : wb3.cell? ⟨w.heap.size + 1, 0, none⟩ = some (.slice p1 ws1.length q1))
  have x1_1 := (by rw [hw3]; exact cell_old _ (by rw [hw2]; exact cell_new _ _ _ z1.symm rfl : wb2.cell? ⟨w.heap.size + 1, 1, none⟩ = some (.int .i64 b1)) : wb3.cell? ⟨w.heap.size + 1, 1, none⟩ = some (.int .i64 b1))
  have x2_0 := (by rw [hw3]; exact cell_new _ _ _ z2.symm rfl : wb3.cell? ⟨w.heap.size + 2, 0, none⟩ = some (.slice p2 ws2.length q2))
  have x2_1 := (by rw [hw3]; exact cell_new _ _ _ z2.symm rfl : wb3.cell? ⟨w.heap.size + 2, 1, none⟩ = some (.int .i64 b2))
  have HB0 := Lib.hid (show Below w.heap.size w wb3 by rw [hw3]; exact (show Below w.heap.size w wb2 by rw [hw2]; exact (show Below w.heap.size w wb1 by rw [hw1]; exact (Below.refl w.heap.size w).alloc (Nat.le_refl _) _).alloc (by omega) _).alloc (by omega) _)
  have s3 : w.heap.size + 3 ≤ wb3.heap.size := by omega
  have HZ3 := Lib.hid z3
  clear z1 z2 z3
  go_wp2_with fail
  rw [← hw1, ← hw2, ← hw3]
  clear hw1 hw2 hw3
  refine (spec_one p0 ws0 q0 b0 x xs d _ (Hh0.out.below HB0.out) (Hhx.out.below HB0.out) k0 kx true HO0).mono ?_
  rintro e w1 ⟨rfl, hb⟩
  have s1 : wb3.heap.size ≤ w1.heap.size := hb.size
  have n1_0 : w.heap.size < w1.heap.size := by omega
  have n1_1 : w.heap.size + 1 < w1.heap.size := by omega
  have n1_2 : w.heap.size + 2 < w1.heap.size := by omega
  replace x0_0 := cell_below hb x0_0 (by omega)
  replace x0_1 := cell_below hb x0_1 (by omega)
  replace x1_0 := cell_below hb x1_0 (by omega)
  replace x1_1 := cell_below hb x1_1 (by omega)
  replace x2_0 := cell_below hb x2_0 (by omega)
  replace x2_1 := cell_below hb x2_1 (by omega)
  have HB1 := Lib.hid (HB0.out.trans (hb.mono (by omega)))
  clear hb
  go_wp2_with fail
  refine (spec_one p1 ws1 q1 b1 x xs d _ (Hh1.out.below HB1.out) (Hhx.out.below HB1.out) k1 kx true HO1).mono ?_
  rintro e w2 ⟨rfl, hb⟩
  have s2 : w1.heap.size ≤ w2.heap.size := hb.size
  have n2_0 : w.heap.size < w2.heap.size := by omega
  have n2_1 : w.heap.size + 1 < w2.heap.size := by omega
  have n2_2 : w.heap.size + 2 < w2.heap.size := by omega
  replace x0_0 := cell_below hb x0_0 (by omega)
  replace x0_1 := cell_below hb x0_1 (by omega)
  replace x1_0 := cell_below hb x1_0 (by omega)
  replace x1_1 := cell_below hb x1_1 (by omega)
  replace x2_0 := cell_below hb x2_0 (by omega)
  replace x2_1 := cell_below hb x2_1 (by omega)
  have HB2 := Lib.hid (HB1.out.trans (hb.mono (by omega)))
  clear hb
  go_wp2_with fail
  refine (spec_one p2 ws2 q2 b2 x xs d _ (Hh2.out.below HB2.out) (Hhx.out.below HB2.out) k2 kx false HO2).mono ?_
  rintro e w3 ⟨rfl, hb⟩
  have s3 : w2.heap.size ≤ w3.heap.size := hb.size
  have n3_0 : w.heap.size < w3.heap.size := by omega
  have n3_1 : w.heap.size + 1 < w3.heap.size := by omega
  have n3_2 : w.heap.size + 2 < w3.heap.size := by omega
  replace x0_0 := cell_below hb x0_0 (by omega)
  replace x0_1 := cell_below hb x0_1 (by omega)
  replace x1_0 := cell_below hb x1_0 (by omega)
  replace x1_1 := cell_below hb x1_1 (by omega)
  replace x2_0 := cell_below hb x2_0 (by omega)
  replace x2_1 := cell_below hb x2_1 (by omega)
  have HB3 := Lib.hid (HB2.out.trans (hb.mono (by omega)))
  clear hb
  go_wp2_with fail
  go_ret2
  exact ⟨rfl, HB3.out⟩
set_option maxRecDepth 100000 in
set_option maxHeartbeats 1600000 in
theorem spec_side_yes (p0 : Option Addr) (ws0 : List Int) (q0 : Nat) (b0 : Int) (p1 : Option Addr) (ws1 : List Int) (q1 : Nat) (b1 : Int) (p2 : Option Addr) (ws2 : List Int) (q2 : Nat) (b2 : Int) (x : Option Addr) (xs : List Int) (d : Nat) (w : World) (h0 : ints.Reads .i64 w p0 ws0) (h1 : ints.Reads .i64 w p1 ws1) (h2 : ints.Reads .i64 w p2 ws2) (hx : ints.Reads .i64 w x xs) (k0 : ws0.length ≤ 1048576) (k1 : ws1.length ≤ 1048576) (k2 : ws2.length ≤ 1048576) (kx : xs.length ≤ 1048576) (o0 : oneB ws0 b0 xs = true) (o1 : oneB ws1 b1 xs = true) (o2 : oneB ws2 b2 xs = true) :
    Calls Try.prog 55 #[.agg #[.slice p0 ws0.length q0, .int .i64 b0], .agg #[.slice p1 ws1.length q1, .int .i64 b1], .agg #[.slice p2 ws2.length q2, .int .i64 b2], .slice x xs.length d] w (RetNB (chSide ws0 b0 ws1 b1 ws2 b2 xs) true w) := by
  have Hh0 := Lib.hid h0
  have Hh1 := Lib.hid h1
  have Hh2 := Lib.hid h2
  have Hhx := Lib.hid hx
  clear h0 h1 h2 hx
  have HO0 := Lib.hid o0
  have HO1 := Lib.hid o1
  have HO2 := Lib.hid o2
  have HOO0 := (oneB_iff _ _ _).1 o0
  have HOO1 := (oneB_iff _ _ _).1 o1
  have HOO2 := (oneB_iff _ _ _).1 o2
  have h4 := ((pointB_iff _).1 HOO0.2.1).2.1
  have HS0 := Lib.hid (one_small o0)
  have HS1 := Lib.hid (one_small o1)
  have HS2 := Lib.hid (one_small o2)
  have HL0 := Lib.hid HOO0.2.2
  have HL1 := Lib.hid HOO1.2.2
  have HL2 := Lib.hid HOO2.2.2
  clear HOO0 HOO1 HOO2
  clear o0 o1 o2
  go_enter Try.func55, Try.ntmps55
  obtain ⟨wb1, hw1⟩ : ∃ wb1 : World, wb1 = w.alloc (.cells #[.slice p0 ws0.length q0, .int .i64 b0] 27) := ⟨_, rfl⟩
  obtain ⟨wb2, hw2⟩ : ∃ wb2 : World, wb2 = wb1.alloc (.cells #[.slice p1 ws1.length q1, .int .i64 b1] 27) := ⟨_, rfl⟩
  obtain ⟨wb3, hw3⟩ : ∃ wb3 : World, wb3 = wb2.alloc (.cells #[.slice p2 ws2.length q2, .int .i64 b2] 27) := ⟨_, rfl⟩
  have z1 : wb1.heap.size = w.heap.size + 1 := by rw [hw1]; simp
  have z2 : wb2.heap.size = w.heap.size + 2 := by rw [hw2]; simp; omega
  have z3 : wb3.heap.size = w.heap.size + 3 := by rw [hw3]; simp; omega
  have x0_0 := (by rw [hw3]; exact cell_old _ (by rw [hw2]; exact cell_old _ (by rw [hw1]; exact cell_new _ _ _ rfl rfl : wb1.cell? ⟨w.heap.size, 0, none⟩ = some (.slice p0 ws0.length q0)) : wb2.cell? ⟨w.heap.size, 0, none⟩ = some (.slice p0 ws0.length q0)) : wb3.cell? ⟨w.heap.size, 0, none⟩ = some (.slice p0 ws0.length q0))
  have x0_1 := (by rw [hw3]; exact cell_old _ (by rw [hw2]; exact cell_old _ (by rw [hw1]; exact cell_new _ _ _ rfl rfl : wb1.cell? ⟨w.heap.size, 1, none⟩ = some (.int .i64 b0)) : wb2.cell? ⟨w.heap.size, 1, none⟩ = some (.int .i64 b0)) : wb3.cell? ⟨w.heap.size, 1, none⟩ = some (.int .i64 b0))
  have x1_0 := (by rw [hw3]; exact cell_old _ (by rw [hw2]; exact cell_new _ _ _ z1.symm rfl : wb2.cell? ⟨w.heap.size + 1, 0, none⟩ = some (.slice p1 ws1.length q1)) : wb3.cell? ⟨w.heap.size + 1, 0, none⟩ = some (.slice p1 ws1.length q1))
  have x1_1 := (by rw [hw3]; exact cell_old _ (by rw [hw2]; exact cell_new _ _ _ z1.symm rfl : wb2.cell? ⟨w.heap.size + 1, 1, none⟩ = some (.int .i64 b1)) : wb3.cell? ⟨w.heap.size + 1, 1, none⟩ = some (.int .i64 b1))
  have x2_0 := (by rw [hw3]; exact cell_new _ _ _ z2.symm rfl : wb3.cell? ⟨w.heap.size + 2, 0, none⟩ = some (.slice p2 ws2.length q2))
  have x2_1 := (by rw [hw3]; exact cell_new _ _ _ z2.symm rfl : wb3.cell? ⟨w.heap.size + 2, 1, none⟩ = some (.int .i64 b2))
  have HB0 := Lib.hid (show Below w.heap.size w wb3 by rw [hw3]; exact (show Below w.heap.size w wb2 by rw [hw2]; exact (show Below w.heap.size w wb1 by rw [hw1]; exact (Below.refl w.heap.size w).alloc (Nat.le_refl _) _).alloc (by omega) _).alloc (by omega) _)
  have s3 : w.heap.size + 3 ≤ wb3.heap.size := by omega
  have HZ3 := Lib.hid z3
  clear z1 z2 z3
  go_wp2_with fail
  rw [← hw1, ← hw2, ← hw3]
  clear hw1 hw2 hw3
  refine (spec_one p0 ws0 q0 b0 x xs d _ (Hh0.out.below HB0.out) (Hhx.out.below HB0.out) k0 kx true HO0).mono ?_
  rintro e w1 ⟨rfl, hb⟩
  have s1 : wb3.heap.size ≤ w1.heap.size := hb.size
  have n1_0 : w.heap.size < w1.heap.size := by omega
  have n1_1 : w.heap.size + 1 < w1.heap.size := by omega
  have n1_2 : w.heap.size + 2 < w1.heap.size := by omega
  replace x0_0 := cell_below hb x0_0 (by omega)
  replace x0_1 := cell_below hb x0_1 (by omega)
  replace x1_0 := cell_below hb x1_0 (by omega)
  replace x1_1 := cell_below hb x1_1 (by omega)
  replace x2_0 := cell_below hb x2_0 (by omega)
  replace x2_1 := cell_below hb x2_1 (by omega)
  have HB1 := Lib.hid (HB0.out.trans (hb.mono (by omega)))
  clear hb
  go_wp2_with fail
  refine (spec_one p1 ws1 q1 b1 x xs d _ (Hh1.out.below HB1.out) (Hhx.out.below HB1.out) k1 kx true HO1).mono ?_
  rintro e w2 ⟨rfl, hb⟩
  have s2 : w1.heap.size ≤ w2.heap.size := hb.size
  have n2_0 : w.heap.size < w2.heap.size := by omega
  have n2_1 : w.heap.size + 1 < w2.heap.size := by omega
  have n2_2 : w.heap.size + 2 < w2.heap.size := by omega
  replace x0_0 := cell_below hb x0_0 (by omega)
  replace x0_1 := cell_below hb x0_1 (by omega)
  replace x1_0 := cell_below hb x1_0 (by omega)
  replace x1_1 := cell_below hb x1_1 (by omega)
  replace x2_0 := cell_below hb x2_0 (by omega)
  replace x2_1 := cell_below hb x2_1 (by omega)
  have HB2 := Lib.hid (HB1.out.trans (hb.mono (by omega)))
  clear hb
  go_wp2_with fail
  refine (spec_one p2 ws2 q2 b2 x xs d _ (Hh2.out.below HB2.out) (Hhx.out.below HB2.out) k2 kx true HO2).mono ?_
  rintro e w3 ⟨rfl, hb⟩
  have s3 : w2.heap.size ≤ w3.heap.size := hb.size
  have n3_0 : w.heap.size < w3.heap.size := by omega
  have n3_1 : w.heap.size + 1 < w3.heap.size := by omega
  have n3_2 : w.heap.size + 2 < w3.heap.size := by omega
  replace x0_0 := cell_below hb x0_0 (by omega)
  replace x0_1 := cell_below hb x0_1 (by omega)
  replace x1_0 := cell_below hb x1_0 (by omega)
  replace x1_1 := cell_below hb x1_1 (by omega)
  replace x2_0 := cell_below hb x2_0 (by omega)
  replace x2_1 := cell_below hb x2_1 (by omega)
  have HB3 := Lib.hid (HB2.out.trans (hb.mono (by omega)))
  clear hb
  go_wp2_with fail
  refine (spec_choice p0 ws0 q0 b0 p1 ws1 q1 b1 p2 ws2 q2 b2 x xs d _ (Hh0.out.below HB3.out) (Hh1.out.below HB3.out) (Hh2.out.below HB3.out) (Hhx.out.below HB3.out) h4 HL0.out HS0.out HL1.out HS1.out HL2.out HS2.out).mono ?_
  rintro e w4 ⟨rfl, hb⟩
  have s4 : w3.heap.size ≤ w4.heap.size := hb.size
  have n4_0 : w.heap.size < w4.heap.size := by omega
  have n4_1 : w.heap.size + 1 < w4.heap.size := by omega
  have n4_2 : w.heap.size + 2 < w4.heap.size := by omega
  replace x0_0 := cell_below hb x0_0 (by omega)
  replace x0_1 := cell_below hb x0_1 (by omega)
  replace x1_0 := cell_below hb x1_0 (by omega)
  replace x1_1 := cell_below hb x1_1 (by omega)
  replace x2_0 := cell_below hb x2_0 (by omega)
  replace x2_1 := cell_below hb x2_1 (by omega)
  have HB4 := Lib.hid (HB3.out.trans (hb.mono (by omega)))
  clear hb
  go_wp2_with fail
  go_ret2
  exact ⟨rfl, HB4.out⟩
set_option maxRecDepth 100000 in
set_option maxHeartbeats 1600000 in
theorem spec_mis_no1 (a : Option Addr) (rows : List (List Int)) (c : Nat) (a' : Option Addr) (zs : List Int) (c' : Nat) (p0 : Option Addr) (ws0 : List Int) (q0 : Nat) (b0 : Int) (p1 : Option Addr) (ws1 : List Int) (q1 : Nat) (b1 : Int) (p2 : Option Addr) (ws2 : List Int) (q2 : Nat) (b2 : Int) (w : World) (hr : grid.Reads w a rows) (hz : ints.Reads .i64 w a' zs) (h0 : ints.Reads .i64 w p0 ws0) (h1 : ints.Reads .i64 w p1 ws1) (h2 : ints.Reads .i64 w p2 ws2) (hn : rows.length ≤ 1048576) (hk : zs.length ≤ 1048576) (hm : ∀ r ∈ rows, r.length ≤ 1048576) (k0 : ws0.length ≤ 1048576) (k1 : ws1.length ≤ 1048576) (k2 : ws2.length ≤ 1048576) (o0 : bothB rows zs ws0 b0 = false) :
    Calls Try.prog 57 #[.agg #[.slice a rows.length c, .slice a' zs.length c'], .agg #[.slice p0 ws0.length q0, .int .i64 b0], .agg #[.slice p1 ws1.length q1, .int .i64 b1], .agg #[.slice p2 ws2.length q2, .int .i64 b2]] w (RetIB [] false w) := by
  have Hhr := Lib.hid hr
  have Hhz := Lib.hid hz
  have Hhm := Lib.hid hm
  have Hh0 := Lib.hid h0
  have Hh1 := Lib.hid h1
  have Hh2 := Lib.hid h2
  clear hr hz hm h0 h1 h2
  have HO0 := Lib.hid o0
  clear o0
  go_enter Try.func57, Try.ntmps57
  obtain ⟨wb1, hw1⟩ : ∃ wb1 : World, wb1 = w.alloc (.cells #[.slice a rows.length c, .slice a' zs.length c'] 38) := ⟨_, rfl⟩
  obtain ⟨wb2, hw2⟩ : ∃ wb2 : World, wb2 = wb1.alloc (.cells #[.slice p0 ws0.length q0, .int .i64 b0] 27) := ⟨_, rfl⟩
  obtain ⟨wb3, hw3⟩ : ∃ wb3 : World, wb3 = wb2.alloc (.cells #[.slice p1 ws1.length q1, .int .i64 b1] 27) := ⟨_, rfl⟩
  obtain ⟨wb4, hw4⟩ : ∃ wb4 : World, wb4 = wb3.alloc (.cells #[.slice p2 ws2.length q2, .int .i64 b2] 27) := ⟨_, rfl⟩
  have z1 : wb1.heap.size = w.heap.size + 1 := by rw [hw1]; simp
  have z2 : wb2.heap.size = w.heap.size + 2 := by rw [hw2]; simp; omega
  have z3 : wb3.heap.size = w.heap.size + 3 := by rw [hw3]; simp; omega
  have z4 : wb4.heap.size = w.heap.size + 4 := by rw [hw4]; simp; omega
  have x0_0 := (by rw [hw4]; exact cell_old _ (by rw [hw3]; exact cell_old _ (by rw [hw2]; exact cell_old _ (by rw [hw1]; exact cell_new _ _ _ rfl rfl : wb1.cell? ⟨w.heap.size, 0, none⟩ = some (.slice a rows.length c)) : wb2.cell? ⟨w.heap.size, 0, none⟩ = some (.slice a rows.length c)) : wb3.cell? ⟨w.heap.size, 0, none⟩ = some (.slice a rows.length c)) : wb4.cell? ⟨w.heap.size, 0, none⟩ = some (.slice a rows.length c))
  have x0_1 := (by rw [hw4]; exact cell_old _ (by rw [hw3]; exact cell_old _ (by rw [hw2]; exact cell_old _ (by rw [hw1]; exact cell_new _ _ _ rfl rfl : wb1.cell? ⟨w.heap.size, 1, none⟩ = some (.slice a' zs.length c')) : wb2.cell? ⟨w.heap.size, 1, none⟩ = some (.slice a' zs.length c')) : wb3.cell? ⟨w.heap.size, 1, none⟩ = some (.slice a' zs.length c')) : wb4.cell? ⟨w.heap.size, 1, none⟩ = some (.slice a' zs.length c'))
  have x1_0 := (by rw [hw4]; exact cell_old _ (by rw [hw3]; exact cell_old _ (by rw [hw2]; exact cell_new _ _ _ z1.symm rfl : wb2.cell? ⟨w.heap.size + 1, 0, none⟩ = some (.slice p0 ws0.length q0)) : wb3.cell? ⟨w.heap.size + 1, 0, none⟩ = some (.slice p0 ws0.length q0)) : wb4.cell? ⟨w.heap.size + 1, 0, none⟩ = some (.slice p0 ws0.length q0))
  have x1_1 := (by rw [hw4]; exact cell_old _ (by rw [hw3]; exact cell_old _ (by rw [hw2]; exact cell_new _ _ _ z1.symm rfl : wb2.cell? ⟨w.heap.size + 1, 1, none⟩ = some (.int .i64 b0)) : wb3.cell? ⟨w.heap.size + 1, 1, none⟩ = some (.int .i64 b0)) : wb4.cell? ⟨w.heap.size + 1, 1, none⟩ = some (.int .i64 b0))
  have x2_0 := (by rw [hw4]; exact cell_old _ (by rw [hw3]; exact cell_new _ _ _ z2.symm rfl : wb3.cell? ⟨w.heap.size + 2, 0, none⟩ = some (.slice p1 ws1.length q1)) : wb4.cell? ⟨w.heap.size + 2, 0, none⟩ = some (.slice p1 ws1.length q1))
  have x2_1 := (by rw [hw4]; exact cell_old _ (by rw [hw3]; exact cell_new _ _ _ z2.symm rfl : wb3.cell? ⟨w.heap.size + 2, 1, none⟩ = some (.int .i64 b1)) : wb4.cell? ⟨w.heap.size + 2, 1, none⟩ = some (.int .i64 b1))
  have x3_0 := (by rw [hw4]; exact cell_new _ _ _ z3.symm rfl : wb4.cell? ⟨w.heap.size + 3, 0, none⟩ = some (.slice p2 ws2.length q2))
  have x3_1 := (by rw [hw4]; exact cell_new _ _ _ z3.symm rfl : wb4.cell? ⟨w.heap.size + 3, 1, none⟩ = some (.int .i64 b2))
  have HB0 := Lib.hid (show Below w.heap.size w wb4 by rw [hw4]; exact (show Below w.heap.size w wb3 by rw [hw3]; exact (show Below w.heap.size w wb2 by rw [hw2]; exact (show Below w.heap.size w wb1 by rw [hw1]; exact (Below.refl w.heap.size w).alloc (Nat.le_refl _) _).alloc (by omega) _).alloc (by omega) _).alloc (by omega) _)
  have s4 : w.heap.size + 4 ≤ wb4.heap.size := by omega
  have HZ4 := Lib.hid z4
  clear z1 z2 z3 z4
  go_wp2_with fail
  rw [← hw1, ← hw2, ← hw3, ← hw4]
  clear hw1 hw2 hw3 hw4
  refine (spec_both a rows c a' zs c' p0 ws0 q0 b0 _ (Hhr.out.below HB0.out) (Hhz.out.below HB0.out) (Hh0.out.below HB0.out) hn hk Hhm.out k0 false HO0).mono ?_
  rintro e w1 ⟨rfl, hb⟩
  have s1 : wb4.heap.size ≤ w1.heap.size := hb.size
  have n1_0 : w.heap.size < w1.heap.size := by omega
  have n1_1 : w.heap.size + 1 < w1.heap.size := by omega
  have n1_2 : w.heap.size + 2 < w1.heap.size := by omega
  have n1_3 : w.heap.size + 3 < w1.heap.size := by omega
  replace x0_0 := cell_below hb x0_0 (by omega)
  replace x0_1 := cell_below hb x0_1 (by omega)
  replace x1_0 := cell_below hb x1_0 (by omega)
  replace x1_1 := cell_below hb x1_1 (by omega)
  replace x2_0 := cell_below hb x2_0 (by omega)
  replace x2_1 := cell_below hb x2_1 (by omega)
  replace x3_0 := cell_below hb x3_0 (by omega)
  replace x3_1 := cell_below hb x3_1 (by omega)
  have HB1 := Lib.hid (HB0.out.trans (hb.mono (by omega)))
  clear hb
  go_wp2_with fail
  go_ret2
  exact ret_empty HB1.out
set_option maxRecDepth 100000 in
set_option maxHeartbeats 1600000 in
theorem spec_mis_no2 (a : Option Addr) (rows : List (List Int)) (c : Nat) (a' : Option Addr) (zs : List Int) (c' : Nat) (p0 : Option Addr) (ws0 : List Int) (q0 : Nat) (b0 : Int) (p1 : Option Addr) (ws1 : List Int) (q1 : Nat) (b1 : Int) (p2 : Option Addr) (ws2 : List Int) (q2 : Nat) (b2 : Int) (w : World) (hr : grid.Reads w a rows) (hz : ints.Reads .i64 w a' zs) (h0 : ints.Reads .i64 w p0 ws0) (h1 : ints.Reads .i64 w p1 ws1) (h2 : ints.Reads .i64 w p2 ws2) (hn : rows.length ≤ 1048576) (hk : zs.length ≤ 1048576) (hm : ∀ r ∈ rows, r.length ≤ 1048576) (k0 : ws0.length ≤ 1048576) (k1 : ws1.length ≤ 1048576) (k2 : ws2.length ≤ 1048576) (o0 : bothB rows zs ws0 b0 = true) (o1 : bothB rows zs ws1 b1 = false) :
    Calls Try.prog 57 #[.agg #[.slice a rows.length c, .slice a' zs.length c'], .agg #[.slice p0 ws0.length q0, .int .i64 b0], .agg #[.slice p1 ws1.length q1, .int .i64 b1], .agg #[.slice p2 ws2.length q2, .int .i64 b2]] w (RetIB [] false w) := by
  have Hhr := Lib.hid hr
  have Hhz := Lib.hid hz
  have Hhm := Lib.hid hm
  have Hh0 := Lib.hid h0
  have Hh1 := Lib.hid h1
  have Hh2 := Lib.hid h2
  clear hr hz hm h0 h1 h2
  have HO0 := Lib.hid o0
  have HO1 := Lib.hid o1
  clear o0 o1
  go_enter Try.func57, Try.ntmps57
  obtain ⟨wb1, hw1⟩ : ∃ wb1 : World, wb1 = w.alloc (.cells #[.slice a rows.length c, .slice a' zs.length c'] 38) := ⟨_, rfl⟩
  obtain ⟨wb2, hw2⟩ : ∃ wb2 : World, wb2 = wb1.alloc (.cells #[.slice p0 ws0.length q0, .int .i64 b0] 27) := ⟨_, rfl⟩
  obtain ⟨wb3, hw3⟩ : ∃ wb3 : World, wb3 = wb2.alloc (.cells #[.slice p1 ws1.length q1, .int .i64 b1] 27) := ⟨_, rfl⟩
  obtain ⟨wb4, hw4⟩ : ∃ wb4 : World, wb4 = wb3.alloc (.cells #[.slice p2 ws2.length q2, .int .i64 b2] 27) := ⟨_, rfl⟩
  have z1 : wb1.heap.size = w.heap.size + 1 := by rw [hw1]; simp
  have z2 : wb2.heap.size = w.heap.size + 2 := by rw [hw2]; simp; omega
  have z3 : wb3.heap.size = w.heap.size + 3 := by rw [hw3]; simp; omega
  have z4 : wb4.heap.size = w.heap.size + 4 := by rw [hw4]; simp; omega
  have x0_0 := (by rw [hw4]; exact cell_old _ (by rw [hw3]; exact cell_old _ (by rw [hw2]; exact cell_old _ (by rw [hw1]; exact cell_new _ _ _ rfl rfl : wb1.cell? ⟨w.heap.size, 0, none⟩ = some (.slice a rows.length c)) : wb2.cell? ⟨w.heap.size, 0, none⟩ = some (.slice a rows.length c)) : wb3.cell? ⟨w.heap.size, 0, none⟩ = some (.slice a rows.length c)) : wb4.cell? ⟨w.heap.size, 0, none⟩ = some (.slice a rows.length c))
  have x0_1 := (by rw [hw4]; exact cell_old _ (by rw [hw3]; exact cell_old _ (by rw [hw2]; exact cell_old _ (by rw [hw1]; exact cell_new _ _ _ rfl rfl : wb1.cell? ⟨w.heap.size, 1, none⟩ = some (.slice a' zs.length c')) : wb2.cell? ⟨w.heap.size, 1, none⟩ = some (.slice a' zs.length c')) : wb3.cell? ⟨w.heap.size, 1, none⟩ = some (.slice a' zs.length c')) : wb4.cell? ⟨w.heap.size, 1, none⟩ = some (.slice a' zs.length c'))
  have x1_0 := (by rw [hw4]; exact cell_old _ (by rw [hw3]; exact cell_old _ (by rw [hw2]; exact cell_new _ _ _ z1.symm rfl : wb2.cell? ⟨w.heap.size + 1, 0, none⟩ = some (.slice p0 ws0.length q0)) : wb3.cell? ⟨w.heap.size + 1, 0, none⟩ = some (.slice p0 ws0.length q0)) : wb4.cell? ⟨w.heap.size + 1, 0, none⟩ = some (.slice p0 ws0.length q0))
  have x1_1 := (by rw [hw4]; exact cell_old _ (by rw [hw3]; exact cell_old _ (by rw [hw2]; exact cell_new _ _ _ z1.symm rfl : wb2.cell? ⟨w.heap.size + 1, 1, none⟩ = some (.int .i64 b0)) : wb3.cell? ⟨w.heap.size + 1, 1, none⟩ = some (.int .i64 b0)) : wb4.cell? ⟨w.heap.size + 1, 1, none⟩ = some (.int .i64 b0))
  have x2_0 := (by rw [hw4]; exact cell_old _ (by rw [hw3]; exact cell_new _ _ _ z2.symm rfl : wb3.cell? ⟨w.heap.size + 2, 0, none⟩ = some (.slice p1 ws1.length q1)) : wb4.cell? ⟨w.heap.size + 2, 0, none⟩ = some (.slice p1 ws1.length q1))
  have x2_1 := (by rw [hw4]; exact cell_old _ (by rw [hw3]; exact cell_new _ _ _ z2.symm rfl : wb3.cell? ⟨w.heap.size + 2, 1, none⟩ = some (.int .i64 b1)) : wb4.cell? ⟨w.heap.size + 2, 1, none⟩ = some (.int .i64 b1))
  have x3_0 := (by rw [hw4]; exact cell_new _ _ _ z3.symm rfl : wb4.cell? ⟨w.heap.size + 3, 0, none⟩ = some (.slice p2 ws2.length q2))
  have x3_1 := (by rw [hw4]; exact cell_new _ _ _ z3.symm rfl : wb4.cell? ⟨w.heap.size + 3, 1, none⟩ = some (.int .i64 b2))
  have HB0 := Lib.hid (show Below w.heap.size w wb4 by rw [hw4]; exact (show Below w.heap.size w wb3 by rw [hw3]; exact (show Below w.heap.size w wb2 by rw [hw2]; exact (show Below w.heap.size w wb1 by rw [hw1]; exact (Below.refl w.heap.size w).alloc (Nat.le_refl _) _).alloc (by omega) _).alloc (by omega) _).alloc (by omega) _)
  have s4 : w.heap.size + 4 ≤ wb4.heap.size := by omega
  have HZ4 := Lib.hid z4
  clear z1 z2 z3 z4
  go_wp2_with fail
  rw [← hw1, ← hw2, ← hw3, ← hw4]
  clear hw1 hw2 hw3 hw4
  refine (spec_both a rows c a' zs c' p0 ws0 q0 b0 _ (Hhr.out.below HB0.out) (Hhz.out.below HB0.out) (Hh0.out.below HB0.out) hn hk Hhm.out k0 true HO0).mono ?_
  rintro e w1 ⟨rfl, hb⟩
  have s1 : wb4.heap.size ≤ w1.heap.size := hb.size
  have n1_0 : w.heap.size < w1.heap.size := by omega
  have n1_1 : w.heap.size + 1 < w1.heap.size := by omega
  have n1_2 : w.heap.size + 2 < w1.heap.size := by omega
  have n1_3 : w.heap.size + 3 < w1.heap.size := by omega
  replace x0_0 := cell_below hb x0_0 (by omega)
  replace x0_1 := cell_below hb x0_1 (by omega)
  replace x1_0 := cell_below hb x1_0 (by omega)
  replace x1_1 := cell_below hb x1_1 (by omega)
  replace x2_0 := cell_below hb x2_0 (by omega)
  replace x2_1 := cell_below hb x2_1 (by omega)
  replace x3_0 := cell_below hb x3_0 (by omega)
  replace x3_1 := cell_below hb x3_1 (by omega)
  have HB1 := Lib.hid (HB0.out.trans (hb.mono (by omega)))
  clear hb
  go_wp2_with fail
  refine (spec_both a rows c a' zs c' p1 ws1 q1 b1 _ (Hhr.out.below HB1.out) (Hhz.out.below HB1.out) (Hh1.out.below HB1.out) hn hk Hhm.out k1 false HO1).mono ?_
  rintro e w2 ⟨rfl, hb⟩
  have s2 : w1.heap.size ≤ w2.heap.size := hb.size
  have n2_0 : w.heap.size < w2.heap.size := by omega
  have n2_1 : w.heap.size + 1 < w2.heap.size := by omega
  have n2_2 : w.heap.size + 2 < w2.heap.size := by omega
  have n2_3 : w.heap.size + 3 < w2.heap.size := by omega
  replace x0_0 := cell_below hb x0_0 (by omega)
  replace x0_1 := cell_below hb x0_1 (by omega)
  replace x1_0 := cell_below hb x1_0 (by omega)
  replace x1_1 := cell_below hb x1_1 (by omega)
  replace x2_0 := cell_below hb x2_0 (by omega)
  replace x2_1 := cell_below hb x2_1 (by omega)
  replace x3_0 := cell_below hb x3_0 (by omega)
  replace x3_1 := cell_below hb x3_1 (by omega)
  have HB2 := Lib.hid (HB1.out.trans (hb.mono (by omega)))
  clear hb
  go_wp2_with fail
  go_ret2
  exact ret_empty HB2.out
set_option maxRecDepth 100000 in
set_option maxHeartbeats 1600000 in
theorem spec_mis_no3 (a : Option Addr) (rows : List (List Int)) (c : Nat) (a' : Option Addr) (zs : List Int) (c' : Nat) (p0 : Option Addr) (ws0 : List Int) (q0 : Nat) (b0 : Int) (p1 : Option Addr) (ws1 : List Int) (q1 : Nat) (b1 : Int) (p2 : Option Addr) (ws2 : List Int) (q2 : Nat) (b2 : Int) (w : World) (hr : grid.Reads w a rows) (hz : ints.Reads .i64 w a' zs) (h0 : ints.Reads .i64 w p0 ws0) (h1 : ints.Reads .i64 w p1 ws1) (h2 : ints.Reads .i64 w p2 ws2) (hn : rows.length ≤ 1048576) (hk : zs.length ≤ 1048576) (hm : ∀ r ∈ rows, r.length ≤ 1048576) (k0 : ws0.length ≤ 1048576) (k1 : ws1.length ≤ 1048576) (k2 : ws2.length ≤ 1048576) (o0 : bothB rows zs ws0 b0 = true) (o1 : bothB rows zs ws1 b1 = true) (o2 : bothB rows zs ws2 b2 = false) :
    Calls Try.prog 57 #[.agg #[.slice a rows.length c, .slice a' zs.length c'], .agg #[.slice p0 ws0.length q0, .int .i64 b0], .agg #[.slice p1 ws1.length q1, .int .i64 b1], .agg #[.slice p2 ws2.length q2, .int .i64 b2]] w (RetIB [] false w) := by
  have Hhr := Lib.hid hr
  have Hhz := Lib.hid hz
  have Hhm := Lib.hid hm
  have Hh0 := Lib.hid h0
  have Hh1 := Lib.hid h1
  have Hh2 := Lib.hid h2
  clear hr hz hm h0 h1 h2
  have HO0 := Lib.hid o0
  have HO1 := Lib.hid o1
  have HO2 := Lib.hid o2
  clear o0 o1 o2
  go_enter Try.func57, Try.ntmps57
  obtain ⟨wb1, hw1⟩ : ∃ wb1 : World, wb1 = w.alloc (.cells #[.slice a rows.length c, .slice a' zs.length c'] 38) := ⟨_, rfl⟩
  obtain ⟨wb2, hw2⟩ : ∃ wb2 : World, wb2 = wb1.alloc (.cells #[.slice p0 ws0.length q0, .int .i64 b0] 27) := ⟨_, rfl⟩
  obtain ⟨wb3, hw3⟩ : ∃ wb3 : World, wb3 = wb2.alloc (.cells #[.slice p1 ws1.length q1, .int .i64 b1] 27) := ⟨_, rfl⟩
  obtain ⟨wb4, hw4⟩ : ∃ wb4 : World, wb4 = wb3.alloc (.cells #[.slice p2 ws2.length q2, .int .i64 b2] 27) := ⟨_, rfl⟩
  have z1 : wb1.heap.size = w.heap.size + 1 := by rw [hw1]; simp
  have z2 : wb2.heap.size = w.heap.size + 2 := by rw [hw2]; simp; omega
  have z3 : wb3.heap.size = w.heap.size + 3 := by rw [hw3]; simp; omega
  have z4 : wb4.heap.size = w.heap.size + 4 := by rw [hw4]; simp; omega
  have x0_0 := (by rw [hw4]; exact cell_old _ (by rw [hw3]; exact cell_old _ (by rw [hw2]; exact cell_old _ (by rw [hw1]; exact cell_new _ _ _ rfl rfl : wb1.cell? ⟨w.heap.size, 0, none⟩ = some (.slice a rows.length c)) : wb2.cell? ⟨w.heap.size, 0, none⟩ = some (.slice a rows.length c)) : wb3.cell? ⟨w.heap.size, 0, none⟩ = some (.slice a rows.length c)) : wb4.cell? ⟨w.heap.size, 0, none⟩ = some (.slice a rows.length c))
  have x0_1 := (by rw [hw4]; exact cell_old _ (by rw [hw3]; exact cell_old _ (by rw [hw2]; exact cell_old _ (by rw [hw1]; exact cell_new _ _ _ rfl rfl : wb1.cell? ⟨w.heap.size, 1, none⟩ = some (.slice a' zs.length c')) : wb2.cell? ⟨w.heap.size, 1, none⟩ = some (.slice a' zs.length c')) : wb3.cell? ⟨w.heap.size, 1, none⟩ = some (.slice a' zs.length c')) : wb4.cell? ⟨w.heap.size, 1, none⟩ = some (.slice a' zs.length c'))
  have x1_0 := (by rw [hw4]; exact cell_old _ (by rw [hw3]; exact cell_old _ (by rw [hw2]; exact cell_new _ _ _ z1.symm rfl : wb2.cell? ⟨w.heap.size + 1, 0, none⟩ = some (.slice p0 ws0.length q0)) : wb3.cell? ⟨w.heap.size + 1, 0, none⟩ = some (.slice p0 ws0.length q0)) : wb4.cell? ⟨w.heap.size + 1, 0, none⟩ = some (.slice p0 ws0.length q0))
  have x1_1 := (by rw [hw4]; exact cell_old _ (by rw [hw3]; exact cell_old _ (by rw [hw2]; exact cell_new _ _ _ z1.symm rfl : wb2.cell? ⟨w.heap.size + 1, 1, none⟩ = some (.int .i64 b0)) : wb3.cell? ⟨w.heap.size + 1, 1, none⟩ = some (.int .i64 b0)) : wb4.cell? ⟨w.heap.size + 1, 1, none⟩ = some (.int .i64 b0))
  have x2_0 := (by rw [hw4]; exact cell_old _ (by rw [hw3]; exact cell_new _ _ _ z2.symm rfl : wb3.cell? ⟨w.heap.size + 2, 0, none⟩ = some (.slice p1 ws1.length q1)) : wb4.cell? ⟨w.heap.size + 2, 0, none⟩ = some (.slice p1 ws1.length q1))
  have x2_1 := (by rw [hw4]; exact cell_old _ (by rw [hw3]; exact cell_new _ _ _ z2.symm rfl : wb3.cell? ⟨w.heap.size + 2, 1, none⟩ = some (.int .i64 b1)) : wb4.cell? ⟨w.heap.size + 2, 1, none⟩ = some (.int .i64 b1))
  have x3_0 := (by rw [hw4]; exact cell_new _ _ _ z3.symm rfl : wb4.cell? ⟨w.heap.size + 3, 0, none⟩ = some (.slice p2 ws2.length q2))
  have x3_1 := (by rw [hw4]; exact cell_new _ _ _ z3.symm rfl : wb4.cell? ⟨w.heap.size + 3, 1, none⟩ = some (.int .i64 b2))
  have HB0 := Lib.hid (show Below w.heap.size w wb4 by rw [hw4]; exact (show Below w.heap.size w wb3 by rw [hw3]; exact (show Below w.heap.size w wb2 by rw [hw2]; exact (show Below w.heap.size w wb1 by rw [hw1]; exact (Below.refl w.heap.size w).alloc (Nat.le_refl _) _).alloc (by omega) _).alloc (by omega) _).alloc (by omega) _)
  have s4 : w.heap.size + 4 ≤ wb4.heap.size := by omega
  have HZ4 := Lib.hid z4
  clear z1 z2 z3 z4
  go_wp2_with fail
  rw [← hw1, ← hw2, ← hw3, ← hw4]
  clear hw1 hw2 hw3 hw4
  refine (spec_both a rows c a' zs c' p0 ws0 q0 b0 _ (Hhr.out.below HB0.out) (Hhz.out.below HB0.out) (Hh0.out.below HB0.out) hn hk Hhm.out k0 true HO0).mono ?_
  rintro e w1 ⟨rfl, hb⟩
  have s1 : wb4.heap.size ≤ w1.heap.size := hb.size
  have n1_0 : w.heap.size < w1.heap.size := by omega
  have n1_1 : w.heap.size + 1 < w1.heap.size := by omega
  have n1_2 : w.heap.size + 2 < w1.heap.size := by omega
  have n1_3 : w.heap.size + 3 < w1.heap.size := by omega
  replace x0_0 := cell_below hb x0_0 (by omega)
  replace x0_1 := cell_below hb x0_1 (by omega)
  replace x1_0 := cell_below hb x1_0 (by omega)
  replace x1_1 := cell_below hb x1_1 (by omega)
  replace x2_0 := cell_below hb x2_0 (by omega)
  replace x2_1 := cell_below hb x2_1 (by omega)
  replace x3_0 := cell_below hb x3_0 (by omega)
  replace x3_1 := cell_below hb x3_1 (by omega)
  have HB1 := Lib.hid (HB0.out.trans (hb.mono (by omega)))
  clear hb
  go_wp2_with fail
  refine (spec_both a rows c a' zs c' p1 ws1 q1 b1 _ (Hhr.out.below HB1.out) (Hhz.out.below HB1.out) (Hh1.out.below HB1.out) hn hk Hhm.out k1 true HO1).mono ?_
  rintro e w2 ⟨rfl, hb⟩
  have s2 : w1.heap.size ≤ w2.heap.size := hb.size
  have n2_0 : w.heap.size < w2.heap.size := by omega
  have n2_1 : w.heap.size + 1 < w2.heap.size := by omega
  have n2_2 : w.heap.size + 2 < w2.heap.size := by omega
  have n2_3 : w.heap.size + 3 < w2.heap.size := by omega
  replace x0_0 := cell_below hb x0_0 (by omega)
  replace x0_1 := cell_below hb x0_1 (by omega)
  replace x1_0 := cell_below hb x1_0 (by omega)
  replace x1_1 := cell_below hb x1_1 (by omega)
  replace x2_0 := cell_below hb x2_0 (by omega)
  replace x2_1 := cell_below hb x2_1 (by omega)
  replace x3_0 := cell_below hb x3_0 (by omega)
  replace x3_1 := cell_below hb x3_1 (by omega)
  have HB2 := Lib.hid (HB1.out.trans (hb.mono (by omega)))
  clear hb
  go_wp2_with fail
  refine (spec_both a rows c a' zs c' p2 ws2 q2 b2 _ (Hhr.out.below HB2.out) (Hhz.out.below HB2.out) (Hh2.out.below HB2.out) hn hk Hhm.out k2 false HO2).mono ?_
  rintro e w3 ⟨rfl, hb⟩
  have s3 : w2.heap.size ≤ w3.heap.size := hb.size
  have n3_0 : w.heap.size < w3.heap.size := by omega
  have n3_1 : w.heap.size + 1 < w3.heap.size := by omega
  have n3_2 : w.heap.size + 2 < w3.heap.size := by omega
  have n3_3 : w.heap.size + 3 < w3.heap.size := by omega
  replace x0_0 := cell_below hb x0_0 (by omega)
  replace x0_1 := cell_below hb x0_1 (by omega)
  replace x1_0 := cell_below hb x1_0 (by omega)
  replace x1_1 := cell_below hb x1_1 (by omega)
  replace x2_0 := cell_below hb x2_0 (by omega)
  replace x2_1 := cell_below hb x2_1 (by omega)
  replace x3_0 := cell_below hb x3_0 (by omega)
  replace x3_1 := cell_below hb x3_1 (by omega)
  have HB3 := Lib.hid (HB2.out.trans (hb.mono (by omega)))
  clear hb
  go_wp2_with fail
  go_ret2
  exact ret_empty HB3.out
set_option maxRecDepth 100000 in
set_option maxHeartbeats 1600000 in
theorem spec_mis_yes (a : Option Addr) (rows : List (List Int)) (c : Nat) (a' : Option Addr) (zs : List Int) (c' : Nat) (p0 : Option Addr) (ws0 : List Int) (q0 : Nat) (b0 : Int) (p1 : Option Addr) (ws1 : List Int) (q1 : Nat) (b1 : Int) (p2 : Option Addr) (ws2 : List Int) (q2 : Nat) (b2 : Int) (w : World) (hr : grid.Reads w a rows) (hz : ints.Reads .i64 w a' zs) (h0 : ints.Reads .i64 w p0 ws0) (h1 : ints.Reads .i64 w p1 ws1) (h2 : ints.Reads .i64 w p2 ws2) (hn : rows.length ≤ 1048576) (hk : zs.length ≤ 1048576) (hm : ∀ r ∈ rows, r.length ≤ 1048576) (k0 : ws0.length ≤ 1048576) (k1 : ws1.length ≤ 1048576) (k2 : ws2.length ≤ 1048576) (o0 : bothB rows zs ws0 b0 = true) (o1 : bothB rows zs ws1 b1 = true) (o2 : bothB rows zs ws2 b2 = true) :
    Calls Try.prog 57 #[.agg #[.slice a rows.length c, .slice a' zs.length c'], .agg #[.slice p0 ws0.length q0, .int .i64 b0], .agg #[.slice p1 ws1.length q1, .int .i64 b1], .agg #[.slice p2 ws2.length q2, .int .i64 b2]] w (RetIB (placesTo (fun k => chSide ws0 b0 ws1 b1 ws2 b2 (rows.getD k []) != zs.getD k 0) rows.length) true w) := by
  have Hhr := Lib.hid hr
  have Hhz := Lib.hid hz
  have Hhm := Lib.hid hm
  have Hh0 := Lib.hid h0
  have Hh1 := Lib.hid h1
  have Hh2 := Lib.hid h2
  clear hr hz hm h0 h1 h2
  have HO0 := Lib.hid o0
  have HO1 := Lib.hid o1
  have HO2 := Lib.hid o2
  have HL := Lib.hid (show zs.length = rows.length from ((sampleB_iff _ _).1 ((bothB_iff _ _ _ _).1 o0).1).2.1)
  have h16 := (fit_of o0).2
  have HF0 := Lib.hid (fit_of o0).1
  have hw0 := ((planeB_iff _ _).1 ((bothB_iff _ _ _ _).1 o0).2.1).2.1
  have HF1 := Lib.hid (fit_of o1).1
  have hw1 := ((planeB_iff _ _).1 ((bothB_iff _ _ _ _).1 o1).2.1).2.1
  have HF2 := Lib.hid (fit_of o2).1
  have hw2 := ((planeB_iff _ _).1 ((bothB_iff _ _ _ _).1 o2).2.1).2.1
  clear o0 o1 o2
  go_enter Try.func57, Try.ntmps57
  obtain ⟨wb1, hw1⟩ : ∃ wb1 : World, wb1 = w.alloc (.cells #[.slice a rows.length c, .slice a' zs.length c'] 38) := ⟨_, rfl⟩
  obtain ⟨wb2, hw2⟩ : ∃ wb2 : World, wb2 = wb1.alloc (.cells #[.slice p0 ws0.length q0, .int .i64 b0] 27) := ⟨_, rfl⟩
  obtain ⟨wb3, hw3⟩ : ∃ wb3 : World, wb3 = wb2.alloc (.cells #[.slice p1 ws1.length q1, .int .i64 b1] 27) := ⟨_, rfl⟩
  obtain ⟨wb4, hw4⟩ : ∃ wb4 : World, wb4 = wb3.alloc (.cells #[.slice p2 ws2.length q2, .int .i64 b2] 27) := ⟨_, rfl⟩
  have z1 : wb1.heap.size = w.heap.size + 1 := by rw [hw1]; simp
  have z2 : wb2.heap.size = w.heap.size + 2 := by rw [hw2]; simp; omega
  have z3 : wb3.heap.size = w.heap.size + 3 := by rw [hw3]; simp; omega
  have z4 : wb4.heap.size = w.heap.size + 4 := by rw [hw4]; simp; omega
  have x0_0 := (by rw [hw4]; exact cell_old _ (by rw [hw3]; exact cell_old _ (by rw [hw2]; exact cell_old _ (by rw [hw1]; exact cell_new _ _ _ rfl rfl : wb1.cell? ⟨w.heap.size, 0, none⟩ = some (.slice a rows.length c)) : wb2.cell? ⟨w.heap.size, 0, none⟩ = some (.slice a rows.length c)) : wb3.cell? ⟨w.heap.size, 0, none⟩ = some (.slice a rows.length c)) : wb4.cell? ⟨w.heap.size, 0, none⟩ = some (.slice a rows.length c))
  have x0_1 := (by rw [hw4]; exact cell_old _ (by rw [hw3]; exact cell_old _ (by rw [hw2]; exact cell_old _ (by rw [hw1]; exact cell_new _ _ _ rfl rfl : wb1.cell? ⟨w.heap.size, 1, none⟩ = some (.slice a' zs.length c')) : wb2.cell? ⟨w.heap.size, 1, none⟩ = some (.slice a' zs.length c')) : wb3.cell? ⟨w.heap.size, 1, none⟩ = some (.slice a' zs.length c')) : wb4.cell? ⟨w.heap.size, 1, none⟩ = some (.slice a' zs.length c'))
  have x1_0 := (by rw [hw4]; exact cell_old _ (by rw [hw3]; exact cell_old _ (by rw [hw2]; exact cell_new _ _ _ z1.symm rfl : wb2.cell? ⟨w.heap.size + 1, 0, none⟩ = some (.slice p0 ws0.length q0)) : wb3.cell? ⟨w.heap.size + 1, 0, none⟩ = some (.slice p0 ws0.length q0)) : wb4.cell? ⟨w.heap.size + 1, 0, none⟩ = some (.slice p0 ws0.length q0))
  have x1_1 := (by rw [hw4]; exact cell_old _ (by rw [hw3]; exact cell_old _ (by rw [hw2]; exact cell_new _ _ _ z1.symm rfl : wb2.cell? ⟨w.heap.size + 1, 1, none⟩ = some (.int .i64 b0)) : wb3.cell? ⟨w.heap.size + 1, 1, none⟩ = some (.int .i64 b0)) : wb4.cell? ⟨w.heap.size + 1, 1, none⟩ = some (.int .i64 b0))
  have x2_0 := (by rw [hw4]; exact cell_old _ (by rw [hw3]; exact cell_new _ _ _ z2.symm rfl : wb3.cell? ⟨w.heap.size + 2, 0, none⟩ = some (.slice p1 ws1.length q1)) : wb4.cell? ⟨w.heap.size + 2, 0, none⟩ = some (.slice p1 ws1.length q1))
  have x2_1 := (by rw [hw4]; exact cell_old _ (by rw [hw3]; exact cell_new _ _ _ z2.symm rfl : wb3.cell? ⟨w.heap.size + 2, 1, none⟩ = some (.int .i64 b1)) : wb4.cell? ⟨w.heap.size + 2, 1, none⟩ = some (.int .i64 b1))
  have x3_0 := (by rw [hw4]; exact cell_new _ _ _ z3.symm rfl : wb4.cell? ⟨w.heap.size + 3, 0, none⟩ = some (.slice p2 ws2.length q2))
  have x3_1 := (by rw [hw4]; exact cell_new _ _ _ z3.symm rfl : wb4.cell? ⟨w.heap.size + 3, 1, none⟩ = some (.int .i64 b2))
  have HB0 := Lib.hid (show Below w.heap.size w wb4 by rw [hw4]; exact (show Below w.heap.size w wb3 by rw [hw3]; exact (show Below w.heap.size w wb2 by rw [hw2]; exact (show Below w.heap.size w wb1 by rw [hw1]; exact (Below.refl w.heap.size w).alloc (Nat.le_refl _) _).alloc (by omega) _).alloc (by omega) _).alloc (by omega) _)
  have s4 : w.heap.size + 4 ≤ wb4.heap.size := by omega
  have HZ4 := Lib.hid z4
  clear z1 z2 z3 z4
  go_wp2_with fail
  rw [← hw1, ← hw2, ← hw3, ← hw4]
  clear hw1 hw2 hw3 hw4
  refine (spec_both a rows c a' zs c' p0 ws0 q0 b0 _ (Hhr.out.below HB0.out) (Hhz.out.below HB0.out) (Hh0.out.below HB0.out) hn hk Hhm.out k0 true HO0).mono ?_
  rintro e w1 ⟨rfl, hb⟩
  have s1 : wb4.heap.size ≤ w1.heap.size := hb.size
  have n1_0 : w.heap.size < w1.heap.size := by omega
  have n1_1 : w.heap.size + 1 < w1.heap.size := by omega
  have n1_2 : w.heap.size + 2 < w1.heap.size := by omega
  have n1_3 : w.heap.size + 3 < w1.heap.size := by omega
  replace x0_0 := cell_below hb x0_0 (by omega)
  replace x0_1 := cell_below hb x0_1 (by omega)
  replace x1_0 := cell_below hb x1_0 (by omega)
  replace x1_1 := cell_below hb x1_1 (by omega)
  replace x2_0 := cell_below hb x2_0 (by omega)
  replace x2_1 := cell_below hb x2_1 (by omega)
  replace x3_0 := cell_below hb x3_0 (by omega)
  replace x3_1 := cell_below hb x3_1 (by omega)
  have HB1 := Lib.hid (HB0.out.trans (hb.mono (by omega)))
  clear hb
  go_wp2_with fail
  refine (spec_both a rows c a' zs c' p1 ws1 q1 b1 _ (Hhr.out.below HB1.out) (Hhz.out.below HB1.out) (Hh1.out.below HB1.out) hn hk Hhm.out k1 true HO1).mono ?_
  rintro e w2 ⟨rfl, hb⟩
  have s2 : w1.heap.size ≤ w2.heap.size := hb.size
  have n2_0 : w.heap.size < w2.heap.size := by omega
  have n2_1 : w.heap.size + 1 < w2.heap.size := by omega
  have n2_2 : w.heap.size + 2 < w2.heap.size := by omega
  have n2_3 : w.heap.size + 3 < w2.heap.size := by omega
  replace x0_0 := cell_below hb x0_0 (by omega)
  replace x0_1 := cell_below hb x0_1 (by omega)
  replace x1_0 := cell_below hb x1_0 (by omega)
  replace x1_1 := cell_below hb x1_1 (by omega)
  replace x2_0 := cell_below hb x2_0 (by omega)
  replace x2_1 := cell_below hb x2_1 (by omega)
  replace x3_0 := cell_below hb x3_0 (by omega)
  replace x3_1 := cell_below hb x3_1 (by omega)
  have HB2 := Lib.hid (HB1.out.trans (hb.mono (by omega)))
  clear hb
  go_wp2_with fail
  refine (spec_both a rows c a' zs c' p2 ws2 q2 b2 _ (Hhr.out.below HB2.out) (Hhz.out.below HB2.out) (Hh2.out.below HB2.out) hn hk Hhm.out k2 true HO2).mono ?_
  rintro e w3 ⟨rfl, hb⟩
  have s3 : w2.heap.size ≤ w3.heap.size := hb.size
  have n3_0 : w.heap.size < w3.heap.size := by omega
  have n3_1 : w.heap.size + 1 < w3.heap.size := by omega
  have n3_2 : w.heap.size + 2 < w3.heap.size := by omega
  have n3_3 : w.heap.size + 3 < w3.heap.size := by omega
  replace x0_0 := cell_below hb x0_0 (by omega)
  replace x0_1 := cell_below hb x0_1 (by omega)
  replace x1_0 := cell_below hb x1_0 (by omega)
  replace x1_1 := cell_below hb x1_1 (by omega)
  replace x2_0 := cell_below hb x2_0 (by omega)
  replace x2_1 := cell_below hb x2_1 (by omega)
  replace x3_0 := cell_below hb x3_0 (by omega)
  replace x3_1 := cell_below hb x3_1 (by omega)
  have HB3 := Lib.hid (HB2.out.trans (hb.mono (by omega)))
  clear hb
  go_wp2_with fail
  have HDD := Lib.hid (show ∀ (k : Nat) (wa : World) (rp : Option Addr) (rq : Nat), k < rows.length → Below w3.heap.size w3 wa → ints.Reads .i64 wa rp (rows.getD k []) → Calls Try.prog 102 #[.agg #[.slice p0 ws0.length q0, .int .i64 b0], .agg #[.slice p1 ws1.length q1, .int .i64 b1], .agg #[.slice p2 ws2.length q2, .int .i64 b2], .slice rp (rows.getD k []).length rq] wa (RetN (chSide ws0 b0 ws1 b1 ws2 b2 (rows.getD k [])) wa) from fun k wa rp rq hk9 hB hrow => by
    have hB2 := HB3.out.trans (hB.mono HB3.out.size)
    exact spec_choice p0 ws0 q0 b0 p1 ws1 q1 b1 p2 ws2 q2 b2 rp _ rq wa (Hh0.out.below hB2) (Hh1.out.below hB2) (Hh2.out.below hB2) hrow (by rw [(HF0.out k hk9).1]; exact hw0) (HF0.out k hk9).1 (HF0.out k hk9).2 (HF1.out k hk9).1 (HF1.out k hk9).2 (HF2.out k hk9).1 (HF2.out k hk9).2)
  refine (spec_missed a rows c a' zs c' p0 ws0 q0 b0 p1 ws1 q1 b1 p2 ws2 q2 b2 (fun k => chSide ws0 b0 ws1 b1 ws2 b2 (rows.getD k [])) _ (Hhr.out.below HB3.out) (Hhz.out.below HB3.out) HL.out h16 HDD).mono ?_
  rintro e w4 ⟨v, rfl, ho, hb⟩
  have HO9 := Lib.hid (ho.mono HB3.out.size (Nat.le_refl _))
  clear ho
  have s4 : w3.heap.size ≤ w4.heap.size := hb.size
  have n4_0 : w.heap.size < w4.heap.size := by omega
  have n4_1 : w.heap.size + 1 < w4.heap.size := by omega
  have n4_2 : w.heap.size + 2 < w4.heap.size := by omega
  have n4_3 : w.heap.size + 3 < w4.heap.size := by omega
  replace x0_0 := cell_below hb x0_0 (by omega)
  replace x0_1 := cell_below hb x0_1 (by omega)
  replace x1_0 := cell_below hb x1_0 (by omega)
  replace x1_1 := cell_below hb x1_1 (by omega)
  replace x2_0 := cell_below hb x2_0 (by omega)
  replace x2_1 := cell_below hb x2_1 (by omega)
  replace x3_0 := cell_below hb x3_0 (by omega)
  replace x3_1 := cell_below hb x3_1 (by omega)
  have HB4 := Lib.hid (HB3.out.trans (hb.mono (by omega)))
  clear hb
  go_wp2_with fail
  go_ret2
  exact ⟨v, rfl, HO9.out, HB4.out⟩
end Go.Proofs.Ythohnnobahcdpaa.chs
