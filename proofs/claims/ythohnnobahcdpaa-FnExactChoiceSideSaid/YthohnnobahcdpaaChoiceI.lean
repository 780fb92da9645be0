/- The program's choices: their sides and mistakes. -/
import Derived.Test.YthohnnobahcdpaaSuitJ
import Derived.Test.YthohnnobahcdpaaDecide
import Derived.Test.YthohnnobahcdpaaChoiceS
namespace Go.Proofs.Ythohnnobahcdpaa.chi
open Go.RowKit own pp nums pwh samplesv samplest dots both sides sidesof ones suitj chs dec
set_option linter.unusedVariables false
set_option linter.unusedSimpArgs false

set_option maxRecDepth 100000 in
set_option maxHeartbeats 1600000 in
theorem impl_choice (p0 : Option Addr) (ws0 : List Int) (q0 : Nat) (b0 : Int) (p1 : Option Addr) (ws1 : List Int) (q1 : Nat) (b1 : Int) (p2 : Option Addr) (ws2 : List Int) (q2 : Nat) (b2 : Int) (x : Option Addr) (xs : List Int) (d : Nat) (w : World) (h0 : ints.Reads .i64 w p0 ws0) (h1 : ints.Reads .i64 w p1 ws1) (h2 : ints.Reads .i64 w p2 ws2) (hx : ints.Reads .i64 w x xs) (h4 : xs.length ≤ 4) (hl0 : xs.length = ws0.length) (hS0 : Small ws0 xs) (hM0 : Mid b0) (hl1 : xs.length = ws1.length) (hS1 : Small ws1 xs) (hM1 : Mid b1) (hl2 : xs.length = ws2.length) (hS2 : Small ws2 xs) (hM2 : Mid b2) :
    Calls Try.prog 186 #[.agg #[.slice p0 ws0.length q0, .int .i64 b0, .slice p1 ws1.length q1, .int .i64 b1, .slice p2 ws2.length q2, .int .i64 b2], .slice x xs.length d] w (RetN (chSide ws0 b0 ws1 b1 ws2 b2 xs) w) := by
  have HS0 := Lib.hid (fun (wa : World) (hb : Below w.heap.size w wa) => impl_side p0 ws0 q0 b0 x xs d wa (h0.below hb) (hx.below hb) (by omega) (Nat.le_of_eq hl0.symm) (by omega) hS0 hM0)
  have HS1 := Lib.hid (fun (wa : World) (hb : Below w.heap.size w wa) => impl_side p1 ws1 q1 b1 x xs d wa (h1.below hb) (hx.below hb) (by omega) (Nat.le_of_eq hl1.symm) (by omega) hS1 hM1)
  have HS2 := Lib.hid (fun (wa : World) (hb : Below w.heap.size w wa) => impl_side p2 ws2 q2 b2 x xs d wa (h2.below hb) (hx.below hb) (by omega) (Nat.le_of_eq hl2.symm) (by omega) hS2 hM2)
  clear h0 hS0 hl0 hM0 h1 hS1 hl1 hM1 h2 hS2 hl2 hM2 hx h4
  cases hc : (side ws0 b0 xs == 1)
  · have e9 : chSide ws0 b0 ws1 b1 ws2 b2 xs = side ws1 b1 xs := by unfold chSide; rw [if_neg (by simpa using hc)]
    rw [e9]
    clear e9
    go_enter Try.func186, Try.ntmps186
    obtain ⟨wb1, hw1⟩ : ∃ wb1 : World, wb1 = w.alloc (.cells #[.slice p0 ws0.length q0, .int .i64 b0, .slice p1 ws1.length q1, .int .i64 b1, .slice p2 ws2.length q2, .int .i64 b2] 110) := ⟨_, rfl⟩
    have z1 : wb1.heap.size = w.heap.size + 1 := by rw [hw1]; simp
    have x0_0 := (by rw [hw1]; exact cell_new _ _ _ rfl rfl : wb1.cell? ⟨w.heap.size, 0, none⟩ = some (.slice p0 ws0.length q0))
    have x0_1 := (by rw [hw1]; exact cell_new _ _ _ rfl rfl : wb1.cell? ⟨w.heap.size, 1, none⟩ = some (.int .i64 b0))
    have x0_2 := (by rw [hw1]; exact cell_new _ _ _ rfl rfl : wb1.cell? ⟨w.heap.size, 2, none⟩ = some (.slice p1 ws1.length q1))
    have x0_3 := (by rw [hw1]; exact cell_new _ _ _ rfl rfl : wb1.cell? ⟨w.heap.size, 3, none⟩ = some (.int .i64 b1))
    have x0_4 := (by rw [hw1]; exact cell_new _ _ _ rfl rfl : wb1.cell? ⟨w.heap.size, 4, none⟩ = some (.slice p2 ws2.length q2))
    have x0_5 := (by rw [hw1]; exact cell_new _ _ _ rfl rfl : wb1.cell? ⟨w.heap.size, 5, none⟩ = some (.int .i64 b2))
    have HB0 := Lib.hid (show Below w.heap.size w wb1 by rw [hw1]; exact (Below.refl w.heap.size w).alloc (Nat.le_refl _) _)
    have s1 : w.heap.size + 1 ≤ wb1.heap.size := by omega
    have HZ1 := Lib.hid z1
    clear z1
    go_wp2_with fail
    rw [← hw1]
    clear hw1
    refine (HS0.out _ HB0.out).mono ?_
    rintro e w1 ⟨rfl, hb⟩
    replace x0_0 := cell_below hb x0_0 (by omega)
    replace x0_1 := cell_below hb x0_1 (by omega)
    replace x0_2 := cell_below hb x0_2 (by omega)
    replace x0_3 := cell_below hb x0_3 (by omega)
    replace x0_4 := cell_below hb x0_4 (by omega)
    replace x0_5 := cell_below hb x0_5 (by omega)
    have HB1 := Lib.hid (HB0.out.trans (hb.mono (by omega)))
    clear hb
    generalize side ws0 b0 xs = s09 at *
    go_wp2_with fail
    refine (HS1.out _ HB1.out).mono ?_
    rintro e w2 ⟨rfl, hb⟩
    have HB2 := Lib.hid (HB1.out.trans (hb.mono HB1.out.size))
    clear hb
    generalize side ws1 b1 xs = s19 at *
    go_wp2_with fail
    go_ret
    exact ⟨rfl, HB2.out⟩
  · have e9 : chSide ws0 b0 ws1 b1 ws2 b2 xs = side ws2 b2 xs := by unfold chSide; rw [if_pos (by simpa using hc)]
    rw [e9]
    clear e9
    go_enter Try.func186, Try.ntmps186
    obtain ⟨wb1, hw1⟩ : ∃ wb1 : World, wb1 = w.alloc (.cells #[.slice p0 ws0.length q0, .int .i64 b0, .slice p1 ws1.length q1, .int .i64 b1, .slice p2 ws2.length q2, .int .i64 b2] 110) := ⟨_, rfl⟩
    have z1 : wb1.heap.size = w.heap.size + 1 := by rw [hw1]; simp
    have x0_0 := (by rw [hw1]; exact cell_new _ _ _ rfl rfl : wb1.cell? ⟨w.heap.size, 0, none⟩ = some (.slice p0 ws0.length q0))
    have x0_1 := (by rw [hw1]; exact cell_new _ _ _ rfl rfl : wb1.cell? ⟨w.heap.size, 1, none⟩ = some (.int .i64 b0))
    have x0_2 := (by rw [hw1]; exact cell_new _ _ _ rfl rfl : wb1.cell? ⟨w.heap.size, 2, none⟩ = some (.slice p1 ws1.length q1))
    have x0_3 := (by rw [hw1]; exact cell_new _ _ _ rfl rfl : wb1.cell? ⟨w.heap.size, 3, none⟩ = some (.int .i64 b1))
    have x0_4 := (by rw [hw1]; exact cell_new _ _ _ rfl rfl : wb1.cell? ⟨w.heap.size, 4, none⟩ = some (.slice p2 ws2.length q2))
    have x0_5 := (by rw [hw1]; exact cell_new _ _ _ rfl rfl : wb1.cell? ⟨w.heap.size, 5, none⟩ = some (.int .i64 b2))
    have HB0 := Lib.hid (show Below w.heap.size w wb1 by rw [hw1]; exact (Below.refl w.heap.size w).alloc (Nat.le_refl _) _)
    have s1 : w.heap.size + 1 ≤ wb1.heap.size := by omega
    have HZ1 := Lib.hid z1
    clear z1
    go_wp2_with fail
    rw [← hw1]
    clear hw1
    refine (HS0.out _ HB0.out).mono ?_
    rintro e w1 ⟨rfl, hb⟩
    replace x0_0 := cell_below hb x0_0 (by omega)
    replace x0_1 := cell_below hb x0_1 (by omega)
    replace x0_2 := cell_below hb x0_2 (by omega)
    replace x0_3 := cell_below hb x0_3 (by omega)
    replace x0_4 := cell_below hb x0_4 (by omega)
    replace x0_5 := cell_below hb x0_5 (by omega)
    have HB1 := Lib.hid (HB0.out.trans (hb.mono (by omega)))
    clear hb
    generalize side ws0 b0 xs = s09 at *
    go_wp2_with fail
    refine (HS2.out _ HB1.out).mono ?_
    rintro e w2 ⟨rfl, hb⟩
    have HB2 := Lib.hid (HB1.out.trans (hb.mono HB1.out.size))
    clear hb
    generalize side ws2 b2 xs = s29 at *
    go_wp2_with fail
    go_ret
    exact ⟨rfl, HB2.out⟩
set_option maxRecDepth 100000 in
set_option maxHeartbeats 1600000 in
theorem impl_suits3 (a : Option Addr) (rows : List (List Int)) (c : Nat) (a' : Option Addr) (zs : List Int) (c' : Nat) (p0 : Option Addr) (ws0 : List Int) (q0 : Nat) (b0 : Int) (p1 : Option Addr) (ws1 : List Int) (q1 : Nat) (b1 : Int) (p2 : Option Addr) (ws2 : List Int) (q2 : Nat) (b2 : Int) (w : World) (hr : grid.Reads w a rows) (hz : ints.Reads .i64 w a' zs) (h0 : ints.Reads .i64 w p0 ws0) (h1 : ints.Reads .i64 w p1 ws1) (h2 : ints.Reads .i64 w p2 ws2) (z0 : ws0.length ≤ q0) (z1 : ws1.length ≤ q1) (z2 : ws2.length ≤ q2) (hn : rows.length ≤ 1048576) (hk : zs.length ≤ 1048576) (hm : ∀ r ∈ rows, r.length ≤ 1048576) (kw0 : ws0.length ≤ 1048576) (kw1 : ws1.length ≤ 1048576) (kw2 : ws2.length ≤ 1048576) :
    Calls Try.prog 187 #[.agg #[.slice p0 ws0.length q0, .int .i64 b0, .slice p1 ws1.length q1, .int .i64 b1, .slice p2 ws2.length q2, .int .i64 b2], .agg #[.slice a rows.length c, .slice a' zs.length c']] w (RetB (allB rows zs [(ws0, b0), (ws1, b1), (ws2, b2)]) w) := by
  have Hhr := Lib.hid hr
  have Hhz := Lib.hid hz
  have Hhm := Lib.hid hm
  have Hh0 := Lib.hid h0
  have Hh1 := Lib.hid h1
  have Hh2 := Lib.hid h2
  clear hr hz hm h0 h1 h2
  go_enter Try.func187, Try.ntmps187
  obtain ⟨wb1, hw1⟩ : ∃ wb1 : World, wb1 = w.alloc (.cells #[.slice p0 ws0.length q0, .int .i64 b0, .slice p1 ws1.length q1, .int .i64 b1, .slice p2 ws2.length q2, .int .i64 b2] 110) := ⟨_, rfl⟩
  obtain ⟨wb2, hw2⟩ : ∃ wb2 : World, wb2 = wb1.alloc (.cells #[.slice a rows.length c, .slice a' zs.length c'] 38) := ⟨_, rfl⟩
  have z1 : wb1.heap.size = w.heap.size + 1 := by rw [hw1]; simp
  have z2 : wb2.heap.size = w.heap.size + 2 := by rw [hw2]; simp; omega
  have x0_0 := (by rw [hw2]; exact cell_old _ (by rw [hw1]; exact cell_new _ _ _ rfl rfl : wb1.cell? ⟨w.heap.size, 0, none⟩ = some (.slice p0 ws0.length q0)) : wb2.cell? ⟨w.heap.size, 0, none⟩ = some (.slice p0 ws0.length q0))
  have x0_1 := (by rw [hw2]; exact cell_old _ (by rw [hw1]; exact cell_new _ _ _ rfl rfl : wb1.cell? ⟨w.heap.size, 1, none⟩ = some (.int .i64 b0)) : wb2.cell? ⟨w.heap.size, 1, none⟩ = some (.int .i64 b0))
  have x0_2 := (by rw [hw2]; exact cell_old _ (by rw [hw1]; exact cell_new _ _ _ rfl rfl : wb1.cell? ⟨w.heap.size, 2, none⟩ = some (.slice p1 ws1.length q1)) : wb2.cell? ⟨w.heap.size, 2, none⟩ = some (.slice p1 ws1.length q1))
  have x0_3 := (by rw [hw2]; exact cell_old _ (by rw [hw1]; exact cell_new _ _ _ rfl rfl : wb1.cell? ⟨w.heap.size, 3, none⟩ = some (.int .i64 b1)) : wb2.cell? ⟨w.heap.size, 3, none⟩ = some (.int .i64 b1))
  have x0_4 := (by rw [hw2]; exact cell_old _ (by rw [hw1]; exact cell_new _ _ _ rfl rfl : wb1.cell? ⟨w.heap.size, 4, none⟩ = some (.slice p2 ws2.length q2)) : wb2.cell? ⟨w.heap.size, 4, none⟩ = some (.slice p2 ws2.length q2))
  have x0_5 := (by rw [hw2]; exact cell_old _ (by rw [hw1]; exact cell_new _ _ _ rfl rfl : wb1.cell? ⟨w.heap.size, 5, none⟩ = some (.int .i64 b2)) : wb2.cell? ⟨w.heap.size, 5, none⟩ = some (.int .i64 b2))
  have x1_0 := (by rw [hw2]; exact cell_new _ _ _ z1.symm rfl : wb2.cell? ⟨w.heap.size + 1, 0, none⟩ = some (.slice a rows.length c))
  have x1_1 := (by rw [hw2]; exact cell_new _ _ _ z1.symm rfl : wb2.cell? ⟨w.heap.size + 1, 1, none⟩ = some (.slice a' zs.length c'))
  have HB0 := Lib.hid (show Below w.heap.size w wb2 by rw [hw2]; exact (show Below w.heap.size w wb1 by rw [hw1]; exact (Below.refl w.heap.size w).alloc (Nat.le_refl _) _).alloc (by omega) _)
  have s2 : w.heap.size + 2 ≤ wb2.heap.size := by omega
  have HZ2 := Lib.hid z2
  clear z1 z2
  go_wp2_with fail
  rw [← hw1, ← hw2]
  clear hw1 hw2
  have hbx := below_alloc wb2 (.cells #[.slice p0 ws0.length q0, .int .i64 b0, .slice p1 ws1.length q1, .int .i64 b1, .slice p2 ws2.length q2, .int .i64 b2] 27)
  obtain ⟨wx, hwx⟩ : ∃ wx : World, wx = wb2.alloc (.cells #[.slice p0 ws0.length q0, .int .i64 b0, .slice p1 ws1.length q1, .int .i64 b1, .slice p2 ws2.length q2, .int .i64 b2] 27) := ⟨_, rfl⟩
  have g0 : wx.cell? ⟨wb2.heap.size, 0, none⟩ = some (.slice p0 ws0.length q0) := by rw [hwx]; exact cell_new _ _ _ rfl rfl
  have g1 : wx.cell? ⟨wb2.heap.size, 1, none⟩ = some (.int .i64 b0) := by rw [hwx]; exact cell_new _ _ _ rfl rfl
  have g2 : wx.cell? ⟨wb2.heap.size, 2, none⟩ = some (.slice p1 ws1.length q1) := by rw [hwx]; exact cell_new _ _ _ rfl rfl
  have g3 : wx.cell? ⟨wb2.heap.size, 3, none⟩ = some (.int .i64 b1) := by rw [hwx]; exact cell_new _ _ _ rfl rfl
  have g4 : wx.cell? ⟨wb2.heap.size, 4, none⟩ = some (.slice p2 ws2.length q2) := by rw [hwx]; exact cell_new _ _ _ rfl rfl
  have g5 : wx.cell? ⟨wb2.heap.size, 5, none⟩ = some (.int .i64 b2) := by rw [hwx]; exact cell_new _ _ _ rfl rfl
  rw [← hwx] at hbx
  have HBX := Lib.hid (HB0.out.trans (hbx.mono (by omega)))
  have hsx : wb2.heap.size < wx.heap.size := by rw [hwx]; simp
  have HRJ := Lib.hid (show ReadsJ wx (some ⟨wb2.heap.size, 0, none⟩) [(ws0, b0), (ws1, b1), (ws2, b2)] from .inr ⟨wb2.heap.size, 0, rfl, hsx, fun k hk => by
    have : k = 0 ∨ k = 1 ∨ k = 2 := by simp at hk; omega
    rcases this with rfl | rfl | rfl
    · exact ⟨p0, q0, g0, g1, z0, Hh0.out.below HBX.out⟩
    · exact ⟨p1, q1, g2, g3, z1, Hh1.out.below HBX.out⟩
    · exact ⟨p2, q2, g4, g5, z2, Hh2.out.below HBX.out⟩⟩)
  rw [show w.heap.size + 1 + 1 = wb2.heap.size from HZ2.out.symm, ← hwx]
  clear hwx hbx g0 g1 g2 g3 g4 g5
  refine (all_suit a rows c a' zs c' (some ⟨wb2.heap.size, 0, none⟩) [(ws0, b0), (ws1, b1), (ws2, b2)] 3 wx (Hhr.out.below HBX.out) (Hhz.out.below HBX.out) HRJ.out hn hk Hhm.out (by simp) (fun k hk => by
    have : k = 0 ∨ k = 1 ∨ k = 2 := by simp at hk; omega
    rcases this with rfl | rfl | rfl
    · exact kw0
    · exact kw1
    · exact kw2)).mono ?_
  rintro e w3 ⟨rfl, hb⟩
  have HB3 := Lib.hid (HBX.out.trans (hb.mono HBX.out.size))
  clear hb
  generalize allB rows zs [(ws0, b0), (ws1, b1), (ws2, b2)] = ok9 at *
  go_wp2_with fail
  go_ret
  exact ⟨rfl, HB3.out⟩
theorem all3 (rows : List (List Int)) (zs : List Int) (x y z : List Int × Int) : allB rows zs [x, y, z] = (bothB rows zs x.1 x.2 && bothB rows zs y.1 y.2 && bothB rows zs z.1 z.2) := by
  unfold allB
  rw [show (List.range [x, y, z].length) = [0, 1, 2] from rfl]
  simp only [List.any_cons, List.any_nil, Bool.or_false]
  simp only [List.getD_cons_zero, List.getD_cons_succ]
  cases bothB rows zs x.1 x.2 <;> cases bothB rows zs y.1 y.2 <;> cases bothB rows zs z.1 z.2 <;> rfl
set_option maxRecDepth 100000 in
set_option maxHeartbeats 1600000 in
theorem impl_side_no (p0 : Option Addr) (ws0 : List Int) (q0 : Nat) (b0 : Int) (p1 : Option Addr) (ws1 : List Int) (q1 : Nat) (b1 : Int) (p2 : Option Addr) (ws2 : List Int) (q2 : Nat) (b2 : Int) (x : Option Addr) (xs : List Int) (d : Nat) (w : World) (h0 : ints.Reads .i64 w p0 ws0) (h1 : ints.Reads .i64 w p1 ws1) (h2 : ints.Reads .i64 w p2 ws2) (hx : ints.Reads .i64 w x xs) (z0 : ws0.length ≤ q0) (z1 : ws1.length ≤ q1) (z2 : ws2.length ≤ q2) (hq : xs.length ≤ d) (kx : xs.length ≤ 1048576) (kw0 : ws0.length ≤ 1048576) (kw1 : ws1.length ≤ 1048576) (kw2 : ws2.length ≤ 1048576) (o : (oneB ws0 b0 xs && oneB ws1 b1 xs && oneB ws2 b2 xs) = false) :
    Calls Try.prog 56 #[.agg #[.slice p0 ws0.length q0, .int .i64 b0], .agg #[.slice p1 ws1.length q1, .int .i64 b1], .agg #[.slice p2 ws2.length q2, .int .i64 b2], .slice x xs.length d] w (RetNB 0 false w) := by
  have HX := Lib.hid (show ∀ (wa : World) (pa qa : Option Addr), Below w.heap.size w wa → grid.Reads wa pa [xs] → ints.Reads .i64 wa qa [1] → Calls Try.prog 187 #[.agg #[.slice p0 ws0.length q0, .int .i64 b0, .slice p1 ws1.length q1, .int .i64 b1, .slice p2 ws2.length q2, .int .i64 b2], .agg #[.slice pa 1 1, .slice qa 1 1]] wa (RetB false wa) from fun wa pa qa hB hg hl => by
    have e := impl_suits3 pa [xs] 1 qa [1] 1 p0 ws0 q0 b0 p1 ws1 q1 b1 p2 ws2 q2 b2 wa hg hl (h0.below hB) (h1.below hB) (h2.below hB) z0 z1 z2 (by simp) (by simp) (by intro r hr; simp at hr; subst hr; exact kx) kw0 kw1 kw2
    rw [all3, one_both, one_both, one_both, o] at e
    exact e)
  have Hhx := Lib.hid hx
  clear hx h0 h1 h2 o
  go_enter Try.func56, Try.ntmps56
  obtain ⟨wb1, hw1⟩ : ∃ wb1 : World, wb1 = w.alloc (.cells #[.slice p0 ws0.length q0, .int .i64 b0] 27) := ⟨_, rfl⟩
  obtain ⟨wb2, hw2⟩ : ∃ wb2 : World, wb2 = wb1.alloc (.cells #[.slice p1 ws1.length q1, .int .i64 b1] 27) := ⟨_, rfl⟩
  obtain ⟨wb3, hw3⟩ : ∃ wb3 : World, wb3 = wb2.alloc (.cells #[.slice p2 ws2.length q2, .int .i64 b2] 27) := ⟨_, rfl⟩
  have z1 : wb1.heap.size = w.heap.size + 1 := by rw [hw1]; simp
  have z2 : wb2.heap.size = w.heap.size + 2 := by rw [hw2]; simp; omega
  have z3 : wb3.heap.size = w.heap.size + 3 := by rw [hw3]; simp; omega
  have x0_0 := (by rw [hw3]; exact cell_old _ (by rw [hw2]; exact cell_old _ (by rw [hw1]; exact cell_new _ _ _ rfl rfl : wb1.cell? ⟨w.heap.size, 0, none⟩ = some (.slice p0 ws0.length q0)) : wb2.cell? ⟨w.heap.size, 0, none⟩ = some (.slice p0 ws0.length q0)) : wb3.cell? ⟨w.heap.size, 0, none⟩ = some (.slice p0 ws0.length q0))
  have x0_1 := (by rw [hw3]; exact cell_old _ (by rw [hw2]; exact cell_old _ (by rw [hw1]; exact cell_new _ _ _ rfl rfl : wb1.cell? ⟨w.heap.size, 1, none⟩ = some (.int .i64 b0)) : wb2.cell? ⟨w.heap.size, 1, none⟩ = some (.int .i64 b0)) : wb3.cell? ⟨w.heap.size, 1, none⟩ = some (.int .i64 b0))
  have x1_0 := (by rw [hw3]; exact cell_old _ (by rw [hw2]; exact cell_new _ _ _ z1.symm rfl : wb2.cell? ⟨w.heap.size + 1, 0, none⟩ = some (.slice p1 ws1.length q1)) : wb3.cell? ⟨w.heap.size + 1, 0, none⟩ = some (.slice p1 ws1.length q1))
  have x1_1 := (by rw [hw3]; exact cell_old _ (by rw [hw2]; exact cell_new _ _ _ z1.symm rfl : wb2.cell? ⟨w.heap.size + 1, 1, none⟩ = some (.int .i64 b1)) : wb3.cell? ⟨w.heap.size + 1, 1, none⟩ = some (.int .i64 b1))
  have x2_0 := (by rw [hw3]; exact cell_new _ _ _ z2.symm rfl : wb3.cell? ⟨w.heap.size + 2, 0, none⟩ = some (.slice p2 ws2.length q2))
  have x2_1 := (by rw [hw3]; exact cell_new _ _ _ z2.symm rfl : wb3.cell? ⟨w.heap.size + 2, 1, none⟩ = some (.int .i64 b2))
  have HB0 := Lib.hid (show Below w.heap.size w wb3 by rw [hw3]; exact (show Below w.heap.size w wb2 by rw [hw2]; exact (show Below w.heap.size w wb1 by rw [hw1]; exact (Below.refl w.heap.size w).alloc (Nat.le_refl _) _).alloc (by omega) _).alloc (by omega) _)
  have s3 : w.heap.size + 3 ≤ wb3.heap.size := by omega
  have HZ3 := Lib.hid z3
  clear z1 z2 z3
  go_wp2_with fail
  rw [← hw1, ← hw2, ← hw3]
  clear hw1 hw2 hw3
  refine (side_no 110 (.agg #[.slice p0 ws0.length q0, .int .i64 b0, .slice p1 ws1.length q1, .int .i64 b1, .slice p2 ws2.length q2, .int .i64 b2]) _ (enters_of Try.func187 (by kernel_rfl) rfl) (show ∀ w : World, Sem.run Try.prog (method 282 110 (.agg #[.slice p0 ws0.length q0, .int .i64 b0, .slice p1 ws1.length q1, .int .i64 b1, .slice p2 ws2.length q2, .int .i64 b2])  "loop.example/g01135/impl.suitsSample") w = .ok (187, .agg #[.slice p0 ws0.length q0, .int .i64 b0, .slice p1 ws1.length q1, .int .i64 b1, .slice p2 ws2.length q2, .int .i64 b2]) w from fun _ => by kernel_rfl) x xs d _ (Lib.hid fun wa pa qa hb hg hl => HX.out wa pa qa (HB0.out.trans (hb.mono HB0.out.size)) hg hl) (Hhx.out.below HB0.out) hq).mono ?_
  rintro e w1 ⟨rfl, hb⟩
  have s1 : wb3.heap.size ≤ w1.heap.size := hb.size
  have n1_0 : w.heap.size < w1.heap.size := by omega
  have n1_1 : w.heap.size + 1 < w1.heap.size := by omega
  have n1_2 : w.heap.size + 2 < w1.heap.size := by omega
  replace x0_0 := cell_below hb x0_0 (by omega)
  replace x0_1 := cell_below hb x0_1 (by omega)
  replace x1_0 := cell_below hb x1_0 (by omega)
  replace x1_1 := cell_below hb x1_1 (by omega)
  replace x2_0 := cell_below hb x2_0 (by omega)
  replace x2_1 := cell_below hb x2_1 (by omega)
  have HB1 := Lib.hid (HB0.out.trans (hb.mono (by omega)))
  clear hb
  go_wp2_with fail
  go_ret2
  exact ⟨rfl, HB1.out⟩
set_option maxRecDepth 100000 in
set_option maxHeartbeats 1600000 in
theorem impl_side_yes (p0 : Option Addr) (ws0 : List Int) (q0 : Nat) (b0 : Int) (p1 : Option Addr) (ws1 : List Int) (q1 : Nat) (b1 : Int) (p2 : Option Addr) (ws2 : List Int) (q2 : Nat) (b2 : Int) (x : Option Addr) (xs : List Int) (d : Nat) (w : World) (h0 : ints.Reads .i64 w p0 ws0) (h1 : ints.Reads .i64 w p1 ws1) (h2 : ints.Reads .i64 w p2 ws2) (hx : ints.Reads .i64 w x xs) (z0 : ws0.length ≤ q0) (z1 : ws1.length ≤ q1) (z2 : ws2.length ≤ q2) (hq : xs.length ≤ d) (kx : xs.length ≤ 1048576) (kw0 : ws0.length ≤ 1048576) (kw1 : ws1.length ≤ 1048576) (kw2 : ws2.length ≤ 1048576) (o : (oneB ws0 b0 xs && oneB ws1 b1 xs && oneB ws2 b2 xs) = true) :
    Calls Try.prog 56 #[.agg #[.slice p0 ws0.length q0, .int .i64 b0], .agg #[.slice p1 ws1.length q1, .int .i64 b1], .agg #[.slice p2 ws2.length q2, .int .i64 b2], .slice x xs.length d] w (RetNB (chSide ws0 b0 ws1 b1 ws2 b2 xs) true w) := by
  have HX := Lib.hid (show ∀ (wa : World) (pa qa : Option Addr), Below w.heap.size w wa → grid.Reads wa pa [xs] → ints.Reads .i64 wa qa [1] → Calls Try.prog 187 #[.agg #[.slice p0 ws0.length q0, .int .i64 b0, .slice p1 ws1.length q1, .int .i64 b1, .slice p2 ws2.length q2, .int .i64 b2], .agg #[.slice pa 1 1, .slice qa 1 1]] wa (RetB true wa) from fun wa pa qa hB hg hl => by
    have e := impl_suits3 pa [xs] 1 qa [1] 1 p0 ws0 q0 b0 p1 ws1 q1 b1 p2 ws2 q2 b2 wa hg hl (h0.below hB) (h1.below hB) (h2.below hB) z0 z1 z2 (by simp) (by simp) (by intro r hr; simp at hr; subst hr; exact kx) kw0 kw1 kw2
    rw [all3, one_both, one_both, one_both, o] at e
    exact e)
  have o' := o
  simp only [Bool.and_eq_true] at o'
  obtain ⟨⟨o0, o1⟩, o2⟩ := o'
  have HOO0 := (oneB_iff _ _ _).1 o0
  have HOO1 := (oneB_iff _ _ _).1 o1
  have HOO2 := (oneB_iff _ _ _).1 o2
  have h4 := ((pointB_iff _).1 HOO0.2.1).2.1
  have HY := Lib.hid (show ∀ wa : World, Below w.heap.size w wa → Calls Try.prog 186 #[.agg #[.slice p0 ws0.length q0, .int .i64 b0, .slice p1 ws1.length q1, .int .i64 b1, .slice p2 ws2.length q2, .int .i64 b2], .slice x xs.length d] wa (RetN (chSide ws0 b0 ws1 b1 ws2 b2 xs) wa) from fun wa hB =>
    impl_choice p0 ws0 q0 b0 p1 ws1 q1 b1 p2 ws2 q2 b2 x xs d wa (h0.below hB) (h1.below hB) (h2.below hB) (hx.below hB) h4 HOO0.2.2 (one_small o0) (mid_plane HOO0.1) HOO1.2.2 (one_small o1) (mid_plane HOO1.1) HOO2.2.2 (one_small o2) (mid_plane HOO2.1))
  clear HOO0 HOO1 HOO2 o0 o1 o2 h4
  have Hhx := Lib.hid hx
  clear hx h0 h1 h2 o
  go_enter Try.func56, Try.ntmps56
  obtain ⟨wb1, hw1⟩ : ∃ wb1 : World, wb1 = w.alloc (.cells #[.slice p0 ws0.length q0, .int .i64 b0] 27) := ⟨_, rfl⟩
  obtain ⟨wb2, hw2⟩ : ∃ wb2 : World, wb2 = wb1.alloc (.cells #[.slice p1 ws1.length q1, .int .i64 b1] 27) := ⟨_, rfl⟩
  obtain ⟨wb3, hw3⟩ : ∃ wb3 : World, wb3 = wb2.alloc (.cells #[.slice p2 ws2.length q2, .int .i64 b2] 27) := ⟨_, rfl⟩
  have z1 : wb1.heap.size = w.heap.size + 1 := by rw [hw1]; simp
  have z2 : wb2.heap.size = w.heap.size + 2 := by rw [hw2]; simp; omega
  have z3 : wb3.heap.size = w.heap.size + 3 := by rw [hw3]; simp; omega
  have x0_0 := (by rw [hw3]; exact cell_old _ (by rw [hw2]; exact cell_old _ (by rw [hw1]; exact cell_new _ _ _ rfl rfl : wb1.cell? ⟨w.heap.size, 0, none⟩ = some (.slice p0 ws0.length q0)) : wb2.cell? ⟨w.heap.size, 0, none⟩ = some (.slice p0 ws0.length q0)) : wb3.cell? ⟨w.heap.size, 0, none⟩ = some (.slice p0 ws0.length q0))
  have x0_1 := (by rw [hw3]; exact cell_old _ (by rw [hw2]; exact cell_old _ (by rw [hw1]; exact cell_new _ _ _ rfl rfl : wb1.cell? ⟨w.heap.size, 1, none⟩ = some (.int .i64 b0)) : wb2.cell? ⟨w.heap.size, 1, none⟩ = some (.int .i64 b0)) : wb3.cell? ⟨w.heap.size, 1, none⟩ = some (.int .i64 b0))
  have x1_0 := (by rw [hw3]; exact cell_old _ (by rw [hw2]; exact cell_new _ _ _ z1.symm rfl : wb2.cell? ⟨w.heap.size + 1, 0, none⟩ = some (.slice p1 ws1.length q1)) : wb3.cell? ⟨w.heap.size + 1, 0, none⟩ = some (.slice p1 ws1.length q1))
  have x1_1 := (by rw [hw3]; exact cell_old _ (by rw [hw2]; exact cell_new _ _ _ z1.symm rfl : wb2.cell? ⟨w.heap.size + 1, 1, none⟩ = some (.int .i64 b1)) : wb3.cell? ⟨w.heap.size + 1, 1, none⟩ = some (.int .i64 b1))
  have x2_0 := (by rw [hw3]; exact cell_new _ _ _ z2.symm rfl : wb3.cell? ⟨w.heap.size + 2, 0, none⟩ = some (.slice p2 ws2.length q2))
  have x2_1 := (by rw [hw3]; exact cell_new _ _ _ z2.symm rfl : wb3.cell? ⟨w.heap.size + 2, 1, none⟩ = some (.int .i64 b2))
  have HB0 := Lib.hid (show Below w.heap.size w wb3 by rw [hw3]; exact (show Below w.heap.size w wb2 by rw [hw2]; exact (show Below w.heap.size w wb1 by rw [hw1]; exact (Below.refl w.heap.size w).alloc (Nat.le_refl _) _).alloc (by omega) _).alloc (by omega) _)
  have s3 : w.heap.size + 3 ≤ wb3.heap.size := by omega
  have HZ3 := Lib.hid z3
  clear z1 z2 z3
  go_wp2_with fail
  rw [← hw1, ← hw2, ← hw3]
  clear hw1 hw2 hw3
  refine (side_yes 110 (.agg #[.slice p0 ws0.length q0, .int .i64 b0, .slice p1 ws1.length q1, .int .i64 b1, .slice p2 ws2.length q2, .int .i64 b2]) _ _ (enters_of Try.func187 (by kernel_rfl) rfl) (show ∀ w : World, Sem.run Try.prog (method 282 110 (.agg #[.slice p0 ws0.length q0, .int .i64 b0, .slice p1 ws1.length q1, .int .i64 b1, .slice p2 ws2.length q2, .int .i64 b2])  "loop.example/g01135/impl.suitsSample") w = .ok (187, .agg #[.slice p0 ws0.length q0, .int .i64 b0, .slice p1 ws1.length q1, .int .i64 b1, .slice p2 ws2.length q2, .int .i64 b2]) w from fun _ => by kernel_rfl) (enters_of Try.func186 (by kernel_rfl) rfl) (show ∀ w : World, Sem.run Try.prog (method 282 110 (.agg #[.slice p0 ws0.length q0, .int .i64 b0, .slice p1 ws1.length q1, .int .i64 b1, .slice p2 ws2.length q2, .int .i64 b2])  "loop.example/g01135/impl.sideOf") w = .ok (186, .agg #[.slice p0 ws0.length q0, .int .i64 b0, .slice p1 ws1.length q1, .int .i64 b1, .slice p2 ws2.length q2, .int .i64 b2]) w from fun _ => by kernel_rfl) x xs d _ _ (Lib.hid fun wa pa qa hb hg hl => HX.out wa pa qa (HB0.out.trans (hb.mono HB0.out.size)) hg hl) (Lib.hid fun wa hb => HY.out wa (HB0.out.trans (hb.mono HB0.out.size))) (Hhx.out.below HB0.out) hq).mono ?_
  rintro e w1 ⟨rfl, hb⟩
  have s1 : wb3.heap.size ≤ w1.heap.size := hb.size
  have n1_0 : w.heap.size < w1.heap.size := by omega
  have n1_1 : w.heap.size + 1 < w1.heap.size := by omega
  have n1_2 : w.heap.size + 2 < w1.heap.size := by omega
  replace x0_0 := cell_below hb x0_0 (by omega)
  replace x0_1 := cell_below hb x0_1 (by omega)
  replace x1_0 := cell_below hb x1_0 (by omega)
  replace x1_1 := cell_below hb x1_1 (by omega)
  replace x2_0 := cell_below hb x2_0 (by omega)
  replace x2_1 := cell_below hb x2_1 (by omega)
  have HB1 := Lib.hid (HB0.out.trans (hb.mono (by omega)))
  clear hb
  go_wp2_with fail
  go_ret2
  exact ⟨rfl, HB1.out⟩
set_option maxRecDepth 100000 in
set_option maxHeartbeats 1600000 in
theorem impl_mis_no (a : Option Addr) (rows : List (List Int)) (c : Nat) (a' : Option Addr) (zs : List Int) (c' : Nat) (p0 : Option Addr) (ws0 : List Int) (q0 : Nat) (b0 : Int) (p1 : Option Addr) (ws1 : List Int) (q1 : Nat) (b1 : Int) (p2 : Option Addr) (ws2 : List Int) (q2 : Nat) (b2 : Int) (w : World) (hr : grid.Reads w a rows) (hz : ints.Reads .i64 w a' zs) (h0 : ints.Reads .i64 w p0 ws0) (h1 : ints.Reads .i64 w p1 ws1) (h2 : ints.Reads .i64 w p2 ws2) (z0 : ws0.length ≤ q0) (z1 : ws1.length ≤ q1) (z2 : ws2.length ≤ q2) (hn : rows.length ≤ 1048576) (hk : zs.length ≤ 1048576) (hm : ∀ r ∈ rows, r.length ≤ 1048576) (kw0 : ws0.length ≤ 1048576) (kw1 : ws1.length ≤ 1048576) (kw2 : ws2.length ≤ 1048576) (o : (bothB rows zs ws0 b0 && bothB rows zs ws1 b1 && bothB rows zs ws2 b2) = false) :
    Calls Try.prog 58 #[.agg #[.slice a rows.length c, .slice a' zs.length c'], .agg #[.slice p0 ws0.length q0, .int .i64 b0], .agg #[.slice p1 ws1.length q1, .int .i64 b1], .agg #[.slice p2 ws2.length q2, .int .i64 b2]] w (RetIB [] false w) := by
  have HX := Lib.hid (show ∀ wa : World, Below w.heap.size w wa → Calls Try.prog 187 #[.agg #[.slice p0 ws0.length q0, .int .i64 b0, .slice p1 ws1.length q1, .int .i64 b1, .slice p2 ws2.length q2, .int .i64 b2], .agg #[.slice a rows.length c, .slice a' zs.length c']] wa (RetB false wa) from fun wa hB => by
    have e := impl_suits3 a rows c a' zs c' p0 ws0 q0 b0 p1 ws1 q1 b1 p2 ws2 q2 b2 wa (hr.below hB) (hz.below hB) (h0.below hB) (h1.below hB) (h2.below hB) z0 z1 z2 hn hk hm kw0 kw1 kw2
    rw [all3, o] at e
    exact e)
  have Hhr := Lib.hid hr
  have Hhz := Lib.hid hz
  clear hr hz
  clear h0 h1 h2 o hm
  go_enter Try.func58, Try.ntmps58
  obtain ⟨wb1, hw1⟩ : ∃ wb1 : World, wb1 = w.alloc (.cells #[.slice a rows.length c, .slice a' zs.length c'] 38) := ⟨_, rfl⟩
  obtain ⟨wb2, hw2⟩ : ∃ wb2 : World, wb2 = wb1.alloc (.cells #[.slice p0 ws0.length q0, .int .i64 b0] 27) := ⟨_, rfl⟩
  obtain ⟨wb3, hw3⟩ : ∃ wb3 : World, wb3 = wb2.alloc (.cells #[.slice p1 ws1.length q1, .int .i64 b1] 27) := ⟨_, rfl⟩
  obtain ⟨wb4, hw4⟩ : ∃ wb4 : World, wb4 = wb3.alloc (.cells #[.slice p2 ws2.length q2, .int .i64 b2] 27) := ⟨_, rfl⟩
  have z1 : wb1.heap.size = w.heap.size + 1 := by rw [hw1]; simp
  have z2 : wb2.heap.size = w.heap.size + 2 := by rw [hw2]; simp; omega
  have z3 : wb3.heap.size = w.heap.size + 3 := by rw [hw3]; simp; omega
  have z4 : wb4.heap.size = w.heap.size + 4 := by rw [hw4]; simp; omega
  have x0_0 := (by rw [hw4]; exact cell_old _ (by rw [hw3]; exact cell_old _ (by rw [hw2]; exact cell_old _ (by rw [hw1]; exact cell_new _ _ _ rfl rfl : wb1.cell? ⟨w.heap.size, 0, none⟩ = some (.slice a rows.length c)) : wb2.cell? ⟨w.heap.size, 0, none⟩ = some (.slice a rows.length c)) : wb3.cell? ⟨w.heap.size, 0, none⟩ = some (.slice a rows.length c)) : wb4.cell? ⟨w.heap.size, 0, none⟩ = some (.slice a rows.length c))
  have x0_1 := (by rw [hw4]; exact cell_old _ (by rw [hw3]; exact cell_old _ (by rw [hw2]; exact cell_old _ (by rw [hw1]; exact cell_new _ _ _ rfl rfl : wb1.cell? ⟨w.heap.size, 1, none⟩ = some (.slice a' zs.length c')) : wb2.cell? ⟨w.heap.size, 1, none⟩ = some (.slice a' zs.length c')) : wb3.cell? ⟨w.heap.size, 1, none⟩ = some (.slice a' zs.length c')) : wb4.cell? ⟨w.heap.size, 1, none⟩ = some (.slice a' zs.length c'))
  have x1_0 := (by rw [hw4]; exact cell_old _ (by rw [hw3]; exact cell_old _ (by rw [hw2]; exact cell_new _ _ _ z1.symm rfl : wb2.cell? ⟨w.heap.size + 1, 0, none⟩ = some (.slice p0 ws0.length q0)) : wb3.cell? ⟨w.heap.size + 1, 0, none⟩ = some (.slice p0 ws0.length q0)) : wb4.cell? ⟨w.heap.size + 1, 0, none⟩ = some (.slice p0 ws0.length q0))
  have x1_1 := (by rw [hw4]; exact cell_old _ (by rw [hw3]; exact cell_old _ (by rw [hw2]; exact cell_new _ _ _ z1.symm rfl : wb2.cell? ⟨w.heap.size + 1, 1, none⟩ = some (.int .i64 b0)) : wb3.cell? ⟨w.heap.size + 1, 1, none⟩ = some (.int .i64 b0)) : wb4.cell? ⟨w.heap.size + 1, 1, none⟩ = some (.int .i64 b0))
  have x2_0 := (by rw [hw4]; exact cell_old _ (by rw [hw3]; exact cell_new _ _ _ z2.symm rfl : wb3.cell? ⟨w.heap.size + 2, 0, none⟩ = some (.slice p1 ws1.length q1)) : wb4.cell? ⟨w.heap.size + 2, 0, none⟩ = some (.slice p1 ws1.length q1))
  have x2_1 := (by rw [hw4]; exact cell_old _ (by rw [hw3]; exact cell_new _ _ _ z2.symm rfl : wb3.cell? ⟨w.heap.size + 2, 1, none⟩ = some (.int .i64 b1)) : wb4.cell? ⟨w.heap.size + 2, 1, none⟩ = some (.int .i64 b1))
  have x3_0 := (by rw [hw4]; exact cell_new _ _ _ z3.symm rfl : wb4.cell? ⟨w.heap.size + 3, 0, none⟩ = some (.slice p2 ws2.length q2))
  have x3_1 := (by rw [hw4]; exact cell_new _ _ _ z3.symm rfl : wb4.cell? ⟨w.heap.size + 3, 1, none⟩ = some (.int .i64 b2))
  have HB0 := Lib.hid (show Below w.heap.size w wb4 by rw [hw4]; exact (show Below w.heap.size w wb3 by rw [hw3]; exact (show Below w.heap.size w wb2 by rw [hw2]; exact (show Below w.heap.size w wb1 by rw [hw1]; exact (Below.refl w.heap.size w).alloc (Nat.le_refl _) _).alloc (by omega) _).alloc (by omega) _).alloc (by omega) _)
  have s4 : w.heap.size + 4 ≤ wb4.heap.size := by omega
  have HZ4 := Lib.hid z4
  clear z1 z2 z3 z4
  go_wp2_with fail
  rw [← hw1, ← hw2, ← hw3, ← hw4]
  clear hw1 hw2 hw3 hw4
  refine (mis_no 110 (.agg #[.slice p0 ws0.length q0, .int .i64 b0, .slice p1 ws1.length q1, .int .i64 b1, .slice p2 ws2.length q2, .int .i64 b2]) _ (enters_of Try.func187 (by kernel_rfl) rfl) (show ∀ w : World, Sem.run Try.prog (method 282 110 (.agg #[.slice p0 ws0.length q0, .int .i64 b0, .slice p1 ws1.length q1, .int .i64 b1, .slice p2 ws2.length q2, .int .i64 b2])  "loop.example/g01135/impl.suitsSample") w = .ok (187, .agg #[.slice p0 ws0.length q0, .int .i64 b0, .slice p1 ws1.length q1, .int .i64 b1, .slice p2 ws2.length q2, .int .i64 b2]) w from fun _ => by kernel_rfl) a rows c a' zs c' _ (Lib.hid fun wa hb => HX.out wa (HB0.out.trans (hb.mono HB0.out.size)))).mono ?_
  rintro e w1 ⟨v, rfl, ho, hb⟩
  have HO9 := Lib.hid (ho.mono HB0.out.size (Nat.le_refl _))
  clear ho
  have s1 : wb4.heap.size ≤ w1.heap.size := hb.size
  have n1_0 : w.heap.size < w1.heap.size := by omega
  have n1_1 : w.heap.size + 1 < w1.heap.size := by omega
  have n1_2 : w.heap.size + 2 < w1.heap.size := by omega
  have n1_3 : w.heap.size + 3 < w1.heap.size := by omega
  replace x0_0 := cell_below hb x0_0 (by omega)
  replace x0_1 := cell_below hb x0_1 (by omega)
  replace x1_0 := cell_below hb x1_0 (by omega)
  replace x1_1 := cell_below hb x1_1 (by omega)
  replace x2_0 := cell_below hb x2_0 (by omega)
  replace x2_1 := cell_below hb x2_1 (by omega)
  replace x3_0 := cell_below hb x3_0 (by omega)
  replace x3_1 := cell_below hb x3_1 (by omega)
  have HB1 := Lib.hid (HB0.out.trans (hb.mono (by omega)))
  clear hb
  go_wp2_with fail
  go_ret2
  exact ⟨v, rfl, HO9.out, HB1.out⟩
set_option maxRecDepth 100000 in
set_option maxHeartbeats 1600000 in
theorem impl_mis_yes (a : Option Addr) (rows : List (List Int)) (c : Nat) (a' : Option Addr) (zs : List Int) (c' : Nat) (p0 : Option Addr) (ws0 : List Int) (q0 : Nat) (b0 : Int) (p1 : Option Addr) (ws1 : List Int) (q1 : Nat) (b1 : Int) (p2 : Option Addr) (ws2 : List Int) (q2 : Nat) (b2 : Int) (w : World) (hr : grid.Reads w a rows) (hz : ints.Reads .i64 w a' zs) (h0 : ints.Reads .i64 w p0 ws0) (h1 : ints.Reads .i64 w p1 ws1) (h2 : ints.Reads .i64 w p2 ws2) (z0 : ws0.length ≤ q0) (z1 : ws1.length ≤ q1) (z2 : ws2.length ≤ q2) (hn : rows.length ≤ 1048576) (hk : zs.length ≤ 1048576) (hm : ∀ r ∈ rows, r.length ≤ 1048576) (kw0 : ws0.length ≤ 1048576) (kw1 : ws1.length ≤ 1048576) (kw2 : ws2.length ≤ 1048576) (o : (bothB rows zs ws0 b0 && bothB rows zs ws1 b1 && bothB rows zs ws2 b2) = true) :
    Calls Try.prog 58 #[.agg #[.slice a rows.length c, .slice a' zs.length c'], .agg #[.slice p0 ws0.length q0, .int .i64 b0], .agg #[.slice p1 ws1.length q1, .int .i64 b1], .agg #[.slice p2 ws2.length q2, .int .i64 b2]] w (RetIB (placesTo (fun k => chSide ws0 b0 ws1 b1 ws2 b2 (rows.getD k []) != zs.getD k 0) rows.length) true w) := by
  have HX := Lib.hid (show ∀ wa : World, Below w.heap.size w wa → Calls Try.prog 187 #[.agg #[.slice p0 ws0.length q0, .int .i64 b0, .slice p1 ws1.length q1, .int .i64 b1, .slice p2 ws2.length q2, .int .i64 b2], .agg #[.slice a rows.length c, .slice a' zs.length c']] wa (RetB true wa) from fun wa hB => by
    have e := impl_suits3 a rows c a' zs c' p0 ws0 q0 b0 p1 ws1 q1 b1 p2 ws2 q2 b2 wa (hr.below hB) (hz.below hB) (h0.below hB) (h1.below hB) (h2.below hB) z0 z1 z2 hn hk hm kw0 kw1 kw2
    rw [all3, o] at e
    exact e)
  have o' := o
  simp only [Bool.and_eq_true] at o'
  obtain ⟨⟨o0, o1⟩, o2⟩ := o'
  have HL := Lib.hid (show zs.length = rows.length from ((sampleB_iff _ _).1 ((bothB_iff _ _ _ _).1 o0).1).2.1)
  have h16 := (fit_of o0).2
  have hF0 := (fit_of o0).1
  have hw0 := (planeB_iff _ _).1 ((bothB_iff _ _ _ _).1 o0).2.1
  have hF1 := (fit_of o1).1
  have hw1 := (planeB_iff _ _).1 ((bothB_iff _ _ _ _).1 o1).2.1
  have hF2 := (fit_of o2).1
  have hw2 := (planeB_iff _ _).1 ((bothB_iff _ _ _ _).1 o2).2.1
  have HY := Lib.hid (show ∀ (k : Nat) (wa : World) (rp : Option Addr) (rq : Nat), k < rows.length → Below w.heap.size w wa → ints.Reads .i64 wa rp (rows.getD k []) → Calls Try.prog 186 #[.agg #[.slice p0 ws0.length q0, .int .i64 b0, .slice p1 ws1.length q1, .int .i64 b1, .slice p2 ws2.length q2, .int .i64 b2], .slice rp (rows.getD k []).length rq] wa (RetN (chSide ws0 b0 ws1 b1 ws2 b2 (rows.getD k [])) wa) from fun k wa rp rq hk9 hB hrow =>
    impl_choice p0 ws0 q0 b0 p1 ws1 q1 b1 p2 ws2 q2 b2 rp _ rq wa (h0.below hB) (h1.below hB) (h2.below hB) hrow (by rw [(hF0 k hk9).1]; exact hw0.2.1) (hF0 k hk9).1 (hF0 k hk9).2 (mid_plane ((bothB_iff _ _ _ _).1 o0).2.1) (hF1 k hk9).1 (hF1 k hk9).2 (mid_plane ((bothB_iff _ _ _ _).1 o1).2.1) (hF2 k hk9).1 (hF2 k hk9).2 (mid_plane ((bothB_iff _ _ _ _).1 o2).2.1))
  clear o0 o1 o2 hF0 hF1 hF2 hw0 hw1 hw2
  have Hhr := Lib.hid hr
  have Hhz := Lib.hid hz
  clear hr hz
  clear h0 h1 h2 o hm
  go_enter Try.func58, Try.ntmps58
  obtain ⟨wb1, hw1⟩ : ∃ wb1 : World, wb1 = w.alloc (.cells #[.slice a rows.length c, .slice a' zs.length c'] 38) := ⟨_, rfl⟩
  obtain ⟨wb2, hw2⟩ : ∃ wb2 : World, wb2 = wb1.alloc (.cells #[.slice p0 ws0.length q0, .int .i64 b0] 27) := ⟨_, rfl⟩
  obtain ⟨wb3, hw3⟩ : ∃ wb3 : World, wb3 = wb2.alloc (.cells #[.slice p1 ws1.length q1, .int .i64 b1] 27) := ⟨_, rfl⟩
  obtain ⟨wb4, hw4⟩ : ∃ wb4 : World, wb4 = wb3.alloc (.cells #[.slice p2 ws2.length q2, .int .i64 b2] 27) := ⟨_, rfl⟩
  have z1 : wb1.heap.size = w.heap.size + 1 := by rw [hw1]; simp
  have z2 : wb2.heap.size = w.heap.size + 2 := by rw [hw2]; simp; omega
  have z3 : wb3.heap.size = w.heap.size + 3 := by rw [hw3]; simp; omega
  have z4 : wb4.heap.size = w.heap.size + 4 := by rw [hw4]; simp; omega
  have x0_0 := (by rw [hw4]; exact cell_old _ (by rw [hw3]; exact cell_old _ (by rw [hw2]; exact cell_old _ (by rw [hw1]; exact cell_new _ _ _ rfl rfl : wb1.cell? ⟨w.heap.size, 0, none⟩ = some (.slice a rows.length c)) : wb2.cell? ⟨w.heap.size, 0, none⟩ = some (.slice a rows.length c)) : wb3.cell? ⟨w.heap.size, 0, none⟩ = some (.slice a rows.length c)) : wb4.cell? ⟨w.heap.size, 0, none⟩ = some (.slice a rows.length c))
  have x0_1 := (by rw [hw4]; exact cell_old _ (by rw [hw3]; exact cell_old _ (by rw [hw2]; exact cell_old _ (by rw [hw1]; exact cell_new _ _ _ rfl rfl : wb1.cell? ⟨w.heap.size, 1, none⟩ = some (.slice a' zs.length c')) : wb2.cell? ⟨w.heap.size, 1, none⟩ = some (.slice a' zs.length c')) : wb3.cell? ⟨w.heap.size, 1, none⟩ = some (.slice a' zs.length c')) : wb4.cell? ⟨w.heap.size, 1, none⟩ = some (.slice a' zs.length c'))
  have x1_0 := (by rw [hw4]; exact cell_old _ (by rw [hw3]; exact cell_old _ (by rw [hw2]; exact cell_new _ _ _ z1.symm rfl : wb2.cell? ⟨w.heap.size + 1, 0, none⟩ = some (.slice p0 ws0.length q0)) : wb3.cell? ⟨w.heap.size + 1, 0, none⟩ = some (.slice p0 ws0.length q0)) : wb4.cell? ⟨w.heap.size + 1, 0, none⟩ = some (.slice p0 ws0.length q0))
  have x1_1 := (by rw [hw4]; exact cell_old _ (by rw [hw3]; exact cell_old _ (by rw [hw2]; exact cell_new _ _ _ z1.symm rfl : wb2.cell? ⟨w.heap.size + 1, 1, none⟩ = some (.int .i64 b0)) : wb3.cell? ⟨w.heap.size + 1, 1, none⟩ = some (.int .i64 b0)) : wb4.cell? ⟨w.heap.size + 1, 1, none⟩ = some (.int .i64 b0))
  have x2_0 := (by rw [hw4]; exact cell_old _ (by rw [hw3]; exact cell_new _ _ _ z2.symm rfl : wb3.cell? ⟨w.heap.size + 2, 0, none⟩ = some (.slice p1 ws1.length q1)) : wb4.cell? ⟨w.heap.size + 2, 0, none⟩ = some (.slice p1 ws1.length q1))
  have x2_1 := (by rw [hw4]; exact cell_old _ (by rw [hw3]; exact cell_new _ _ _ z2.symm rfl : wb3.cell? ⟨w.heap.size + 2, 1, none⟩ = some (.int .i64 b1)) : wb4.cell? ⟨w.heap.size + 2, 1, none⟩ = some (.int .i64 b1))
  have x3_0 := (by rw [hw4]; exact cell_new _ _ _ z3.symm rfl : wb4.cell? ⟨w.heap.size + 3, 0, none⟩ = some (.slice p2 ws2.length q2))
  have x3_1 := (by rw [hw4]; exact cell_new _ _ _ z3.symm rfl : wb4.cell? ⟨w.heap.size + 3, 1, none⟩ = some (.int .i64 b2))
  have HB0 := Lib.hid (show Below w.heap.size w wb4 by rw [hw4]; exact (show Below w.heap.size w wb3 by rw [hw3]; exact (show Below w.heap.size w wb2 by rw [hw2]; exact (show Below w.heap.size w wb1 by rw [hw1]; exact (Below.refl w.heap.size w).alloc (Nat.le_refl _) _).alloc (by omega) _).alloc (by omega) _).alloc (by omega) _)
  have s4 : w.heap.size + 4 ≤ wb4.heap.size := by omega
  have HZ4 := Lib.hid z4
  clear z1 z2 z3 z4
  go_wp2_with fail
  rw [← hw1, ← hw2, ← hw3, ← hw4]
  clear hw1 hw2 hw3 hw4
  refine (mis_yes 110 (.agg #[.slice p0 ws0.length q0, .int .i64 b0, .slice p1 ws1.length q1, .int .i64 b1, .slice p2 ws2.length q2, .int .i64 b2]) _ _ (enters_of Try.func187 (by kernel_rfl) rfl) (show ∀ w : World, Sem.run Try.prog (method 282 110 (.agg #[.slice p0 ws0.length q0, .int .i64 b0, .slice p1 ws1.length q1, .int .i64 b1, .slice p2 ws2.length q2, .int .i64 b2])  "loop.example/g01135/impl.suitsSample") w = .ok (187, .agg #[.slice p0 ws0.length q0, .int .i64 b0, .slice p1 ws1.length q1, .int .i64 b1, .slice p2 ws2.length q2, .int .i64 b2]) w from fun _ => by kernel_rfl) (enters_of Try.func186 (by kernel_rfl) rfl) (show ∀ w : World, Sem.run Try.prog (method 282 110 (.agg #[.slice p0 ws0.length q0, .int .i64 b0, .slice p1 ws1.length q1, .int .i64 b1, .slice p2 ws2.length q2, .int .i64 b2])  "loop.example/g01135/impl.sideOf") w = .ok (186, .agg #[.slice p0 ws0.length q0, .int .i64 b0, .slice p1 ws1.length q1, .int .i64 b1, .slice p2 ws2.length q2, .int .i64 b2]) w from fun _ => by kernel_rfl) (show ∀ w : World, Sem.run Try.prog (nilAhead 282 110 (.agg #[.slice p0 ws0.length q0, .int .i64 b0, .slice p1 ws1.length q1, .int .i64 b1, .slice p2 ws2.length q2, .int .i64 b2])  "loop.example/g01135/impl.sideOf") w = .ok (some false) w from fun _ => by kernel_rfl) a rows c a' zs c' _ _ (Lib.hid fun wa hb => HX.out wa (HB0.out.trans (hb.mono HB0.out.size))) (Lib.hid fun k wa rp rq hk9 hb hrow => HY.out k wa rp rq hk9 (HB0.out.trans (hb.mono HB0.out.size)) hrow) (Hhr.out.below HB0.out) (Hhz.out.below HB0.out) HL.out h16).mono ?_
  rintro e w1 ⟨v, rfl, ho, hb⟩
  have HO9 := Lib.hid (ho.mono HB0.out.size (Nat.le_refl _))
  clear ho
  have s1 : wb4.heap.size ≤ w1.heap.size := hb.size
  have n1_0 : w.heap.size < w1.heap.size := by omega
  have n1_1 : w.heap.size + 1 < w1.heap.size := by omega
  have n1_2 : w.heap.size + 2 < w1.heap.size := by omega
  have n1_3 : w.heap.size + 3 < w1.heap.size := by omega
  replace x0_0 := cell_below hb x0_0 (by omega)
  replace x0_1 := cell_below hb x0_1 (by omega)
  replace x1_0 := cell_below hb x1_0 (by omega)
  replace x1_1 := cell_below hb x1_1 (by omega)
  replace x2_0 := cell_below hb x2_0 (by omega)
  replace x2_1 := cell_below hb x2_1 (by omega)
  replace x3_0 := cell_below hb x3_0 (by omega)
  replace x3_1 := cell_below hb x3_1 (by omega)
  have HB1 := Lib.hid (HB0.out.trans (hb.mono (by omega)))
  clear hb
  go_wp2_with fail
  go_ret2
  exact ⟨v, rfl, HO9.out, HB1.out⟩
end Go.Proofs.Ythohnnobahcdpaa.chi
