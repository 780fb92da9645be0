/- The walks of the model's and the program's functions on a plane and a point. -/
import Derived.Test.YtocbklmkphgkeaaDots
namespace Go.Proofs.Ytocbklmkphgkeaa.ones
open Go.RowKit own pp nums planes dots
set_option linter.unusedVariables false

set_option maxHeartbeats 1000000 in
theorem spec_one (a : Option Addr) (ws : List Int) (c : Nat) (b : Int) (a' : Option Addr) (xs : List Int) (c' : Nat) (w : World) (hr : ints.Reads .i64 w a ws) (hq : ints.Reads .i64 w a' xs) (hn : ws.length ≤ 1048576) (hm : xs.length ≤ 1048576) (ok : Bool) (h : Hid (oneB ws b xs = ok)) :
    Calls Try.prog 104 #[.agg #[.slice a ws.length c, .int .i64 b], .slice a' xs.length c'] w (RetB ok w) := by
  cases hp : planeB ws b
  · have e : ok = false := by rw [← h.out]; simp [oneB, hp]
    have HP := Lib.hid hp
    clear h hp
    subst e
    have Hhr := Lib.hid hr
    have Hhq := Lib.hid hq
    clear hr hq
    go_enter Try.func104, Try.ntmps104
    go_wp2_with fail
    have x0_0 : (w.alloc (.cells #[.slice a ws.length c, .int .i64 b] 46)).cell? ⟨w.heap.size, 0, none⟩ = some (.slice a ws.length c) := cell_new _ _ _ (by simp) rfl
    have x0_1 : (w.alloc (.cells #[.slice a ws.length c, .int .i64 b] 46)).cell? ⟨w.heap.size, 1, none⟩ = some (.int .i64 b) := cell_new _ _ _ (by simp) rfl
    have HB0 := Lib.hid (below_alloc w (.cells #[.slice a ws.length c, .int .i64 b] 46))
    have s0 : w.heap.size + 1 ≤ (w.alloc (.cells #[.slice a ws.length c, .int .i64 b] 46)).heap.size := by simp
    generalize hw : (w.alloc (.cells #[.slice a ws.length c, .int .i64 b] 46)) = w0 at *
    clear hw
    have n0_0 : w.heap.size < w0.heap.size := by omega
    refine (spec_plane a ws c b _ (Hhr.out.below HB0.out) hn false HP).mono ?_
    rintro e w1 ⟨rfl, hb⟩
    have s1 : w0.heap.size ≤ w1.heap.size := hb.size
    have n1_0 : w.heap.size < w1.heap.size := by omega
    replace x0_0 := cell_below hb x0_0 (by omega)
    replace x0_1 := cell_below hb x0_1 (by omega)
    have HB1 := Lib.hid (HB0.out.trans (hb.mono (by omega)))
    clear hb
    go_wp2_with fail
    go_ret
    exact ⟨rfl, HB1.out⟩
  cases hq' : pointB xs
  · have e : ok = false := by rw [← h.out]; simp [oneB, hq']
    have HP := Lib.hid hp
    have HQ := Lib.hid hq'
    clear h hp hq'
    subst e
    have Hhr := Lib.hid hr
    have Hhq := Lib.hid hq
    clear hr hq
    go_enter Try.func104, Try.ntmps104
    go_wp2_with fail
    have x0_0 : (w.alloc (.cells #[.slice a ws.length c, .int .i64 b] 46)).cell? ⟨w.heap.size, 0, none⟩ = some (.slice a ws.length c) := cell_new _ _ _ (by simp) rfl
    have x0_1 : (w.alloc (.cells #[.slice a ws.length c, .int .i64 b] 46)).cell? ⟨w.heap.size, 1, none⟩ = some (.int .i64 b) := cell_new _ _ _ (by simp) rfl
    have HB0 := Lib.hid (below_alloc w (.cells #[.slice a ws.length c, .int .i64 b] 46))
    have s0 : w.heap.size + 1 ≤ (w.alloc (.cells #[.slice a ws.length c, .int .i64 b] 46)).heap.size := by simp
    generalize hw : (w.alloc (.cells #[.slice a ws.length c, .int .i64 b] 46)) = w0 at *
    clear hw
    have n0_0 : w.heap.size < w0.heap.size := by omega
    refine (spec_plane a ws c b _ (Hhr.out.below HB0.out) hn true HP).mono ?_
    rintro e w1 ⟨rfl, hb⟩
    have s1 : w0.heap.size ≤ w1.heap.size := hb.size
    have n1_0 : w.heap.size < w1.heap.size := by omega
    replace x0_0 := cell_below hb x0_0 (by omega)
    replace x0_1 := cell_below hb x0_1 (by omega)
    have HB1 := Lib.hid (HB0.out.trans (hb.mono (by omega)))
    clear hb
    go_wp2_with fail
    refine (spec_point a' xs c' _ (Hhq.out.below HB1.out) hm false HQ).mono ?_
    rintro e w' ⟨rfl, rfl⟩
    go_wp2_with fail
    go_ret
    exact ⟨rfl, HB1.out⟩
  by_cases hl : xs.length = ws.length
  · have e : ok = true := by rw [← h.out]; simp [oneB, hp, hq', hl]
    have hl' : ((xs.length : Int) == (ws.length : Int)) = true := by simp [hl]
    have HL := Lib.hid hl
    have HP := Lib.hid hp
    have HQ := Lib.hid hq'
    clear h hp hq' hl
    subst e
    have Hhr := Lib.hid hr
    have Hhq := Lib.hid hq
    clear hr hq
    go_enter Try.func104, Try.ntmps104
    go_wp2_with fail
    have x0_0 : (w.alloc (.cells #[.slice a ws.length c, .int .i64 b] 46)).cell? ⟨w.heap.size, 0, none⟩ = some (.slice a ws.length c) := cell_new _ _ _ (by simp) rfl
    have x0_1 : (w.alloc (.cells #[.slice a ws.length c, .int .i64 b] 46)).cell? ⟨w.heap.size, 1, none⟩ = some (.int .i64 b) := cell_new _ _ _ (by simp) rfl
    have HB0 := Lib.hid (below_alloc w (.cells #[.slice a ws.length c, .int .i64 b] 46))
    have s0 : w.heap.size + 1 ≤ (w.alloc (.cells #[.slice a ws.length c, .int .i64 b] 46)).heap.size := by simp
    generalize hw : (w.alloc (.cells #[.slice a ws.length c, .int .i64 b] 46)) = w0 at *
    clear hw
    have n0_0 : w.heap.size < w0.heap.size := by omega
    refine (spec_plane a ws c b _ (Hhr.out.below HB0.out) hn true HP).mono ?_
    rintro e w1 ⟨rfl, hb⟩
    have s1 : w0.heap.size ≤ w1.heap.size := hb.size
    have n1_0 : w.heap.size < w1.heap.size := by omega
    replace x0_0 := cell_below hb x0_0 (by omega)
    replace x0_1 := cell_below hb x0_1 (by omega)
    have HB1 := Lib.hid (HB0.out.trans (hb.mono (by omega)))
    clear hb
    go_wp2_with fail
    refine (spec_point a' xs c' _ (Hhq.out.below HB1.out) hm true HQ).mono ?_
    rintro e w' ⟨rfl, rfl⟩
    go_wp2_with fail
    go_ret
    exact ⟨rfl, HB1.out⟩
  · have e : ok = false := by rw [← h.out]; simp [oneB, hl]
    have hl' : ((xs.length : Int) == (ws.length : Int)) = false := by simp; omega
    have HL := Lib.hid hl
    have HP := Lib.hid hp
    have HQ := Lib.hid hq'
    clear h hp hq' hl
    subst e
    have Hhr := Lib.hid hr
    have Hhq := Lib.hid hq
    clear hr hq
    go_enter Try.func104, Try.ntmps104
    go_wp2_with fail
    have x0_0 : (w.alloc (.cells #[.slice a ws.length c, .int .i64 b] 46)).cell? ⟨w.heap.size, 0, none⟩ = some (.slice a ws.length c) := cell_new _ _ _ (by simp) rfl
    have x0_1 : (w.alloc (.cells #[.slice a ws.length c, .int .i64 b] 46)).cell? ⟨w.heap.size, 1, none⟩ = some (.int .i64 b) := cell_new _ _ _ (by simp) rfl
    have HB0 := Lib.hid (below_alloc w (.cells #[.slice a ws.length c, .int .i64 b] 46))
    have s0 : w.heap.size + 1 ≤ (w.alloc (.cells #[.slice a ws.length c, .int .i64 b] 46)).heap.size := by simp
    generalize hw : (w.alloc (.cells #[.slice a ws.length c, .int .i64 b] 46)) = w0 at *
    clear hw
    have n0_0 : w.heap.size < w0.heap.size := by omega
    refine (spec_plane a ws c b _ (Hhr.out.below HB0.out) hn true HP).mono ?_
    rintro e w1 ⟨rfl, hb⟩
    have s1 : w0.heap.size ≤ w1.heap.size := hb.size
    have n1_0 : w.heap.size < w1.heap.size := by omega
    replace x0_0 := cell_below hb x0_0 (by omega)
    replace x0_1 := cell_below hb x0_1 (by omega)
    have HB1 := Lib.hid (HB0.out.trans (hb.mono (by omega)))
    clear hb
    go_wp2_with fail
    refine (spec_point a' xs c' _ (Hhq.out.below HB1.out) hm true HQ).mono ?_
    rintro e w' ⟨rfl, rfl⟩
    go_wp2_with fail
    go_ret
    exact ⟨rfl, HB1.out⟩
set_option maxHeartbeats 1000000 in
theorem impl_ProductOf_no (a : Option Addr) (ws : List Int) (c : Nat) (b : Int) (a' : Option Addr) (xs : List Int) (c' : Nat) (w : World) (hr : ints.Reads .i64 w a ws) (hq : ints.Reads .i64 w a' xs) (hn : ws.length ≤ 1048576) (hm : xs.length ≤ 1048576) (h : Hid (oneB ws b xs = false)) :
    Calls Try.prog 141 #[.agg #[.slice a ws.length c, .int .i64 b], .slice a' xs.length c'] w (RetNB 0 false w) := by
  cases hp : planeB ws b
  · have HP := Lib.hid hp
    clear h hp
    have Hhr := Lib.hid hr
    have Hhq := Lib.hid hq
    clear hr hq
    go_enter Try.func141, Try.ntmps141
    go_wp2_with fail
    have x0_0 : (w.alloc (.cells #[.slice a ws.length c, .int .i64 b] 46)).cell? ⟨w.heap.size, 0, none⟩ = some (.slice a ws.length c) := cell_new _ _ _ (by simp) rfl
    have x0_1 : (w.alloc (.cells #[.slice a ws.length c, .int .i64 b] 46)).cell? ⟨w.heap.size, 1, none⟩ = some (.int .i64 b) := cell_new _ _ _ (by simp) rfl
    have HB0 := Lib.hid (below_alloc w (.cells #[.slice a ws.length c, .int .i64 b] 46))
    have s0 : w.heap.size + 1 ≤ (w.alloc (.cells #[.slice a ws.length c, .int .i64 b] 46)).heap.size := by simp
    generalize hw : (w.alloc (.cells #[.slice a ws.length c, .int .i64 b] 46)) = w0 at *
    clear hw
    have n0_0 : w.heap.size < w0.heap.size := by omega
    refine (impl_plane a ws c b _ (Hhr.out.below HB0.out) hn false HP).mono ?_
    rintro e w1 ⟨rfl, hb⟩
    have s1 : w0.heap.size ≤ w1.heap.size := hb.size
    have n1_0 : w.heap.size < w1.heap.size := by omega
    replace x0_0 := cell_below hb x0_0 (by omega)
    replace x0_1 := cell_below hb x0_1 (by omega)
    have HB1 := Lib.hid (HB0.out.trans (hb.mono (by omega)))
    clear hb
    go_wp2_with fail
    go_ret2
    exact ⟨rfl, HB1.out⟩
  cases hq' : pointB xs
  · have HP := Lib.hid hp
    have HQ := Lib.hid hq'
    clear h hp hq'
    have Hhr := Lib.hid hr
    have Hhq := Lib.hid hq
    clear hr hq
    go_enter Try.func141, Try.ntmps141
    go_wp2_with fail
    have x0_0 : (w.alloc (.cells #[.slice a ws.length c, .int .i64 b] 46)).cell? ⟨w.heap.size, 0, none⟩ = some (.slice a ws.length c) := cell_new _ _ _ (by simp) rfl
    have x0_1 : (w.alloc (.cells #[.slice a ws.length c, .int .i64 b] 46)).cell? ⟨w.heap.size, 1, none⟩ = some (.int .i64 b) := cell_new _ _ _ (by simp) rfl
    have HB0 := Lib.hid (below_alloc w (.cells #[.slice a ws.length c, .int .i64 b] 46))
    have s0 : w.heap.size + 1 ≤ (w.alloc (.cells #[.slice a ws.length c, .int .i64 b] 46)).heap.size := by simp
    generalize hw : (w.alloc (.cells #[.slice a ws.length c, .int .i64 b] 46)) = w0 at *
    clear hw
    have n0_0 : w.heap.size < w0.heap.size := by omega
    refine (impl_plane a ws c b _ (Hhr.out.below HB0.out) hn true HP).mono ?_
    rintro e w1 ⟨rfl, hb⟩
    have s1 : w0.heap.size ≤ w1.heap.size := hb.size
    have n1_0 : w.heap.size < w1.heap.size := by omega
    replace x0_0 := cell_below hb x0_0 (by omega)
    replace x0_1 := cell_below hb x0_1 (by omega)
    have HB1 := Lib.hid (HB0.out.trans (hb.mono (by omega)))
    clear hb
    go_wp2_with fail
    refine (impl_point a' xs c' _ (Hhq.out.below HB1.out) hm false HQ).mono ?_
    rintro e w' ⟨rfl, rfl⟩
    go_wp2_with fail
    go_ret2
    exact ⟨rfl, HB1.out⟩
  have hl : ¬ xs.length = ws.length := fun e => by have := h.out; simp [oneB, hp, hq', e] at this
  have hl' : ((xs.length : Int) == (ws.length : Int)) = false := by simp; omega
  have hl2 : ((xs.length : Int) != (ws.length : Int)) = true := by simp; omega
  have HP := Lib.hid hp
  have HQ := Lib.hid hq'
  clear h hp hq' hl
  have Hhr := Lib.hid hr
  have Hhq := Lib.hid hq
  clear hr hq
  go_enter Try.func141, Try.ntmps141
  go_wp2_with fail
  have x0_0 : (w.alloc (.cells #[.slice a ws.length c, .int .i64 b] 46)).cell? ⟨w.heap.size, 0, none⟩ = some (.slice a ws.length c) := cell_new _ _ _ (by simp) rfl
  have x0_1 : (w.alloc (.cells #[.slice a ws.length c, .int .i64 b] 46)).cell? ⟨w.heap.size, 1, none⟩ = some (.int .i64 b) := cell_new _ _ _ (by simp) rfl
  have HB0 := Lib.hid (below_alloc w (.cells #[.slice a ws.length c, .int .i64 b] 46))
  have s0 : w.heap.size + 1 ≤ (w.alloc (.cells #[.slice a ws.length c, .int .i64 b] 46)).heap.size := by simp
  generalize hw : (w.alloc (.cells #[.slice a ws.length c, .int .i64 b] 46)) = w0 at *
  clear hw
  have n0_0 : w.heap.size < w0.heap.size := by omega
  refine (impl_plane a ws c b _ (Hhr.out.below HB0.out) hn true HP).mono ?_
  rintro e w1 ⟨rfl, hb⟩
  have s1 : w0.heap.size ≤ w1.heap.size := hb.size
  have n1_0 : w.heap.size < w1.heap.size := by omega
  replace x0_0 := cell_below hb x0_0 (by omega)
  replace x0_1 := cell_below hb x0_1 (by omega)
  have HB1 := Lib.hid (HB0.out.trans (hb.mono (by omega)))
  clear hb
  go_wp2_with fail
  refine (impl_point a' xs c' _ (Hhq.out.below HB1.out) hm true HQ).mono ?_
  rintro e w' ⟨rfl, rfl⟩
  go_wp2_with fail
  go_ret2
  exact ⟨rfl, HB1.out⟩
set_option maxHeartbeats 1000000 in
theorem impl_ProductOf_yes (a : Option Addr) (ws : List Int) (c : Nat) (b : Int) (a' : Option Addr) (xs : List Int) (c' : Nat) (w : World) (hr : ints.Reads .i64 w a ws) (hq : ints.Reads .i64 w a' xs) (hn : ws.length ≤ 1048576) (hm : xs.length ≤ 1048576) (h : Hid (oneB ws b xs = true)) :
    Calls Try.prog 141 #[.agg #[.slice a ws.length c, .int .i64 b], .slice a' xs.length c'] w (RetNB (dot ws xs) true w) := by
  obtain ⟨hp, hq', hl⟩ := (oneB_iff _ _ _).1 h.out
  have hl' : ((xs.length : Int) == (ws.length : Int)) = true := by simp [hl]
  have hl2 : ((xs.length : Int) != (ws.length : Int)) = false := by simp [hl]
  have HP := Lib.hid hp
  have HQ := Lib.hid hq'
  have HL := Lib.hid hl
  have HS := Lib.hid (one_small h.out)
  clear hp hq' hl
  have Hhr := Lib.hid hr
  have Hhq := Lib.hid hq
  clear hr hq
  go_enter Try.func141, Try.ntmps141
  go_wp2_with fail
  have x0_0 : (w.alloc (.cells #[.slice a ws.length c, .int .i64 b] 46)).cell? ⟨w.heap.size, 0, none⟩ = some (.slice a ws.length c) := cell_new _ _ _ (by simp) rfl
  have x0_1 : (w.alloc (.cells #[.slice a ws.length c, .int .i64 b] 46)).cell? ⟨w.heap.size, 1, none⟩ = some (.int .i64 b) := cell_new _ _ _ (by simp) rfl
  have HB0 := Lib.hid (below_alloc w (.cells #[.slice a ws.length c, .int .i64 b] 46))
  have s0 : w.heap.size + 1 ≤ (w.alloc (.cells #[.slice a ws.length c, .int .i64 b] 46)).heap.size := by simp
  generalize hw : (w.alloc (.cells #[.slice a ws.length c, .int .i64 b] 46)) = w0 at *
  clear hw
  have n0_0 : w.heap.size < w0.heap.size := by omega
  refine (impl_plane a ws c b _ (Hhr.out.below HB0.out) hn true HP).mono ?_
  rintro e w1 ⟨rfl, hb⟩
  have s1 : w0.heap.size ≤ w1.heap.size := hb.size
  have n1_0 : w.heap.size < w1.heap.size := by omega
  replace x0_0 := cell_below hb x0_0 (by omega)
  replace x0_1 := cell_below hb x0_1 (by omega)
  have HB1 := Lib.hid (HB0.out.trans (hb.mono (by omega)))
  clear hb
  go_wp2_with fail
  refine (impl_point a' xs c' _ (Hhq.out.below HB1.out) hm true HQ).mono ?_
  rintro e w' ⟨rfl, rfl⟩
  go_wp2_with fail
  refine (impl_dot a ws c a' xs c' _ (Hhr.out.below HB1.out) (Hhq.out.below HB1.out) hn (Nat.le_of_eq HL.out.symm) hm HS.out).mono ?_
  rintro e w' ⟨rfl, m2, rfl⟩
  have hb := ints.below_drewN (Below.refl w1.heap.size w1) m2
  generalize hw : w1.drewN m2 = w2 at *
  clear hw
  have s2 : w1.heap.size ≤ w2.heap.size := hb.size
  have n2_0 : w.heap.size < w2.heap.size := by omega
  replace x0_0 := cell_below hb x0_0 (by omega)
  replace x0_1 := cell_below hb x0_1 (by omega)
  have HB2 := Lib.hid (HB1.out.trans (hb.mono (by omega)))
  clear hb
  go_wp2_with fail
  go_ret2
  exact ⟨rfl, HB2.out⟩
set_option maxHeartbeats 1000000 in
theorem impl_SideOf_no (a : Option Addr) (ws : List Int) (c : Nat) (b : Int) (a' : Option Addr) (xs : List Int) (c' : Nat) (w : World) (hr : ints.Reads .i64 w a ws) (hq : ints.Reads .i64 w a' xs) (hn : ws.length ≤ 1048576) (hm : xs.length ≤ 1048576) (h : Hid (oneB ws b xs = false)) :
    Calls Try.prog 107 #[.agg #[.slice a ws.length c, .int .i64 b], .slice a' xs.length c'] w (RetNB 0 false w) := by
  have Hhr := Lib.hid hr
  have Hhq := Lib.hid hq
  clear hr hq
  go_enter Try.func107, Try.ntmps107
  go_wp2_with fail
  have x0_0 : (w.alloc (.cells #[.slice a ws.length c, .int .i64 b] 46)).cell? ⟨w.heap.size, 0, none⟩ = some (.slice a ws.length c) := cell_new _ _ _ (by simp) rfl
  have x0_1 : (w.alloc (.cells #[.slice a ws.length c, .int .i64 b] 46)).cell? ⟨w.heap.size, 1, none⟩ = some (.int .i64 b) := cell_new _ _ _ (by simp) rfl
  have HB0 := Lib.hid (below_alloc w (.cells #[.slice a ws.length c, .int .i64 b] 46))
  have s0 : w.heap.size + 1 ≤ (w.alloc (.cells #[.slice a ws.length c, .int .i64 b] 46)).heap.size := by simp
  generalize hw : (w.alloc (.cells #[.slice a ws.length c, .int .i64 b] 46)) = w0 at *
  clear hw
  have n0_0 : w.heap.size < w0.heap.size := by omega
  refine (impl_ProductOf_no a ws c b a' xs c' _ (Hhr.out.below HB0.out) (Hhq.out.below HB0.out) hn hm h).mono ?_
  rintro e w1 ⟨rfl, hb⟩
  have s1 : w0.heap.size ≤ w1.heap.size := hb.size
  have n1_0 : w.heap.size < w1.heap.size := by omega
  replace x0_0 := cell_below hb x0_0 (by omega)
  replace x0_1 := cell_below hb x0_1 (by omega)
  have HB1 := Lib.hid (HB0.out.trans (hb.mono (by omega)))
  clear hb
  go_wp2_with fail
  go_ret2
  exact ⟨rfl, HB1.out⟩
set_option maxHeartbeats 1000000 in
theorem impl_SideOf_yes (a : Option Addr) (ws : List Int) (c : Nat) (b : Int) (a' : Option Addr) (xs : List Int) (c' : Nat) (w : World) (hr : ints.Reads .i64 w a ws) (hq : ints.Reads .i64 w a' xs) (hn : ws.length ≤ 1048576) (hm : xs.length ≤ 1048576) (h : Hid (oneB ws b xs = true)) :
    Calls Try.prog 107 #[.agg #[.slice a ws.length c, .int .i64 b], .slice a' xs.length c'] w (RetNB (side ws b xs) true w) := by
  have HL := Lib.hid ((oneB_iff _ _ _).1 h.out).2.2
  have HS := Lib.hid (one_small h.out)
  have Hhr := Lib.hid hr
  have Hhq := Lib.hid hq
  clear hr hq
  go_enter Try.func107, Try.ntmps107
  go_wp2_with fail
  have x0_0 : (w.alloc (.cells #[.slice a ws.length c, .int .i64 b] 46)).cell? ⟨w.heap.size, 0, none⟩ = some (.slice a ws.length c) := cell_new _ _ _ (by simp) rfl
  have x0_1 : (w.alloc (.cells #[.slice a ws.length c, .int .i64 b] 46)).cell? ⟨w.heap.size, 1, none⟩ = some (.int .i64 b) := cell_new _ _ _ (by simp) rfl
  have HB0 := Lib.hid (below_alloc w (.cells #[.slice a ws.length c, .int .i64 b] 46))
  have s0 : w.heap.size + 1 ≤ (w.alloc (.cells #[.slice a ws.length c, .int .i64 b] 46)).heap.size := by simp
  generalize hw : (w.alloc (.cells #[.slice a ws.length c, .int .i64 b] 46)) = w0 at *
  clear hw
  have n0_0 : w.heap.size < w0.heap.size := by omega
  refine (impl_ProductOf_yes a ws c b a' xs c' _ (Hhr.out.below HB0.out) (Hhq.out.below HB0.out) hn hm h).mono ?_
  rintro e w1 ⟨rfl, hb⟩
  have s1 : w0.heap.size ≤ w1.heap.size := hb.size
  have n1_0 : w.heap.size < w1.heap.size := by omega
  replace x0_0 := cell_below hb x0_0 (by omega)
  replace x0_1 := cell_below hb x0_1 (by omega)
  have HB1 := Lib.hid (HB0.out.trans (hb.mono (by omega)))
  clear hb
  go_wp2_with fail
  refine (impl_side a ws c b a' xs c' _ (Hhr.out.below HB1.out) (Hhq.out.below HB1.out) hn (Nat.le_of_eq HL.out.symm) hm HS.out).mono ?_
  rintro e w2 ⟨rfl, hb⟩
  have s2 : w1.heap.size ≤ w2.heap.size := hb.size
  have n2_0 : w.heap.size < w2.heap.size := by omega
  replace x0_0 := cell_below hb x0_0 (by omega)
  replace x0_1 := cell_below hb x0_1 (by omega)
  have HB2 := Lib.hid (HB1.out.trans (hb.mono (by omega)))
  clear hb
  go_wp2_with fail
  go_ret2
  exact ⟨rfl, HB2.out⟩
end Go.Proofs.Ytocbklmkphgkeaa.ones
