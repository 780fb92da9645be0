/- The walks of the model's and the program's functions on a plane and a point. -/
import Derived.Test.YthohnnobahcdpaaDots
namespace Go.Proofs.Ythohnnobahcdpaa.ones
open Go.RowKit own pp nums planes dots
set_option linter.unusedVariables false

set_option maxHeartbeats 1000000 in
theorem spec_one (a : Option Addr) (ws : List Int) (c : Nat) (b : Int) (a' : Option Addr) (xs : List Int) (c' : Nat) (w : World) (hr : ints.Reads .i64 w a ws) (hq : ints.Reads .i64 w a' xs) (hn : ws.length ≤ 1048576) (hm : xs.length ≤ 1048576) (ok : Bool) (h : Hid (oneB ws b xs = ok)) :
    Calls Try.prog 87 #[.agg #[.slice a ws.length c, .int .i64 b], .slice a' xs.length c'] w (RetB ok w) := by
  cases hp : planeB ws b
  · have e : ok = false := by rw [← h.out]; simp [oneB, hp]
    have HP := Lib.hid hp
    clear h hp
    subst e
    have Hhr := Lib.hid hr
    have Hhq := Lib.hid hq
    clear hr hq
    go_enter Try.func87, Try.ntmps87
    go_wp2_with fail
    have x0_0 : (w.alloc (.cells #[.slice a ws.length c, .int .i64 b] 27)).cell? ⟨w.heap.size, 0, none⟩ = some (.slice a ws.length c) := cell_new _ _ _ (by simp) rfl
    have x0_1 : (w.alloc (.cells #[.slice a ws.length c, .int .i64 b] 27)).cell? ⟨w.heap.size, 1, none⟩ = some (.int .i64 b) := cell_new _ _ _ (by simp) rfl
    have HB0 := Lib.hid (below_alloc w (.cells #[.slice a ws.length c, .int .i64 b] 27))
    have s0 : w.heap.size + 1 ≤ (w.alloc (.cells #[.slice a ws.length c, .int .i64 b] 27)).heap.size := by simp
    generalize hw : (w.alloc (.cells #[.slice a ws.length c, .int .i64 b] 27)) = w0 at *
    clear hw
    have n0_0 : w.heap.size < w0.heap.size := by omega
    refine (spec_plane a ws c b _ (Hhr.out.below HB0.out) hn false HP).mono ?_
    rintro e w1 ⟨rfl, hb⟩
    have s1 : w0.heap.size ≤ w1.heap.size := hb.size
    have n1_0 : w.heap.size < w1.heap.size := by omega
    replace x0_0 := cell_below hb x0_0 (by omega)
    replace x0_1 := cell_below hb x0_1 (by omega)
    have HB1 := Lib.hid (HB0.out.trans (hb.mono (by omega)))
    clear hb
    go_wp2_with fail
    go_ret
    exact ⟨rfl, HB1.out⟩
  cases hq' : pointB xs
  · have e : ok = false := by rw [← h.out]; simp [oneB, hq']
    have HP := Lib.hid hp
    have HQ := Lib.hid hq'
    clear h hp hq'
    subst e
    have Hhr := Lib.hid hr
    have Hhq := Lib.hid hq
    clear hr hq
    go_enter Try.func87, Try.ntmps87
    go_wp2_with fail
    have x0_0 : (w.alloc (.cells #[.slice a ws.length c, .int .i64 b] 27)).cell? ⟨w.heap.size, 0, none⟩ = some (.slice a ws.length c) := cell_new _ _ _ (by simp) rfl
    have x0_1 : (w.alloc (.cells #[.slice a ws.length c, .int .i64 b] 27)).cell? ⟨w.heap.size, 1, none⟩ = some (.int .i64 b) := cell_new _ _ _ (by simp) rfl
    have HB0 := Lib.hid (below_alloc w (.cells #[.slice a ws.length c, .int .i64 b] 27))
    have s0 : w.heap.size + 1 ≤ (w.alloc (.cells #[.slice a ws.length c, .int .i64 b] 27)).heap.size := by simp
    generalize hw : (w.alloc (.cells #[.slice a ws.length c, .int .i64 b] 27)) = w0 at *
    clear hw
    have n0_0 : w.heap.size < w0.heap.size := by omega
    refine (spec_plane a ws c b _ (Hhr.out.below HB0.out) hn true HP).mono ?_
    rintro e w1 ⟨rfl, hb⟩
    have s1 : w0.heap.size ≤ w1.heap.size := hb.size
    have n1_0 : w.heap.size < w1.heap.size := by omega
    replace x0_0 := cell_below hb x0_0 (by omega)
    replace x0_1 := cell_below hb x0_1 (by omega)
    have HB1 := Lib.hid (HB0.out.trans (hb.mono (by omega)))
    clear hb
    go_wp2_with fail
    refine (spec_point a' xs c' _ (Hhq.out.below HB1.out) hm false HQ).mono ?_
    rintro e w' ⟨rfl, rfl⟩
    go_wp2_with fail
    go_ret
    exact ⟨rfl, HB1.out⟩
  by_cases hl : xs.length = ws.length
  · have e : ok = true := by rw [← h.out]; simp [oneB, hp, hq', hl]
    have hl' : ((xs.length : Int) == (ws.length : Int)) = true := by simp [hl]
    have HL := Lib.hid hl
    have HP := Lib.hid hp
    have HQ := Lib.hid hq'
    clear h hp hq' hl
    subst e
    have Hhr := Lib.hid hr
    have Hhq := Lib.hid hq
    clear hr hq
    go_enter Try.func87, Try.ntmps87
    go_wp2_with fail
    have x0_0 : (w.alloc (.cells #[.slice a ws.length c, .int .i64 b] 27)).cell? ⟨w.heap.size, 0, none⟩ = some (.slice a ws.length c) := cell_new _ _ _ (by simp) rfl
    have x0_1 : (w.alloc (.cells #[.slice a ws.length c, .int .i64 b] 27)).cell? ⟨w.heap.size, 1, none⟩ = some (.int .i64 b) := cell_new _ _ _ (by simp) rfl
    have HB0 := Lib.hid (below_alloc w (.cells #[.slice a ws.length c, .int .i64 b] 27))
    have s0 : w.heap.size + 1 ≤ (w.alloc (.cells #[.slice a ws.length c, .int .i64 b] 27)).heap.size := by simp
    generalize hw : (w.alloc (.cells #[.slice a ws.length c, .int .i64 b] 27)) = w0 at *
    clear hw
    have n0_0 : w.heap.size < w0.heap.size := by omega
    refine (spec_plane a ws c b _ (Hhr.out.below HB0.out) hn true HP).mono ?_
    rintro e w1 ⟨rfl, hb⟩
    have s1 : w0.heap.size ≤ w1.heap.size := hb.size
    have n1_0 : w.heap.size < w1.heap.size := by omega
    replace x0_0 := cell_below hb x0_0 (by omega)
    replace x0_1 := cell_below hb x0_1 (by omega)
    have HB1 := Lib.hid (HB0.out.trans (hb.mono (by omega)))
    clear hb
    go_wp2_with fail
    refine (spec_point a' xs c' _ (Hhq.out.below HB1.out) hm true HQ).mono ?_
    rintro e w' ⟨rfl, rfl⟩
    go_wp2_with fail
    go_ret
    exact ⟨rfl, HB1.out⟩
  · have e : ok = false := by rw [← h.out]; simp [oneB, hl]
    have hl' : ((xs.length : Int) == (ws.length : Int)) = false := by simp; omega
    have HL := Lib.hid hl
    have HP := Lib.hid hp
    have HQ := Lib.hid hq'
    clear h hp hq' hl
    subst e
    have Hhr := Lib.hid hr
    have Hhq := Lib.hid hq
    clear hr hq
    go_enter Try.func87, Try.ntmps87
    go_wp2_with fail
    have x0_0 : (w.alloc (.cells #[.slice a ws.length c, .int .i64 b] 27)).cell? ⟨w.heap.size, 0, none⟩ = some (.slice a ws.length c) := cell_new _ _ _ (by simp) rfl
    have x0_1 : (w.alloc (.cells #[.slice a ws.length c, .int .i64 b] 27)).cell? ⟨w.heap.size, 1, none⟩ = some (.int .i64 b) := cell_new _ _ _ (by simp) rfl
    have HB0 := Lib.hid (below_alloc w (.cells #[.slice a ws.length c, .int .i64 b] 27))
    have s0 : w.heap.size + 1 ≤ (w.alloc (.cells #[.slice a ws.length c, .int .i64 b] 27)).heap.size := by simp
    generalize hw : (w.alloc (.cells #[.slice a ws.length c, .int .i64 b] 27)) = w0 at *
    clear hw
    have n0_0 : w.heap.size < w0.heap.size := by omega
    refine (spec_plane a ws c b _ (Hhr.out.below HB0.out) hn true HP).mono ?_
    rintro e w1 ⟨rfl, hb⟩
    have s1 : w0.heap.size ≤ w1.heap.size := hb.size
    have n1_0 : w.heap.size < w1.heap.size := by omega
    replace x0_0 := cell_below hb x0_0 (by omega)
    replace x0_1 := cell_below hb x0_1 (by omega)
    have HB1 := Lib.hid (HB0.out.trans (hb.mono (by omega)))
    clear hb
    go_wp2_with fail
    refine (spec_point a' xs c' _ (Hhq.out.below HB1.out) hm true HQ).mono ?_
    rintro e w' ⟨rfl, rfl⟩
    go_wp2_with fail
    go_ret
    exact ⟨rfl, HB1.out⟩
end Go.Proofs.Ythohnnobahcdpaa.ones
