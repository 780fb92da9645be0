/- Several texts in one. -/
import Derived.BigQuiet
import Derived.Deep.QuietTactic
import Derived.Deep.RegionHeld3
import Derived.IntWalk
import Derived.Test.YtldimbipjjjghaaLpH8
import Derived.Test.YtldimbipjjjghaaLpH4
namespace Go.Proofs.Ytldimbipjjjghaa.planes
open Go.RowKit own pp nums
set_option linter.unusedVariables false

set_option maxHeartbeats 400000 in
theorem spec_plane (a : Option Addr) (zs : List Int) (c : Nat) (b : Int) (w : World) (hr : ints.Reads .i64 w a zs) (hn : zs.length ≤ 1048576) (ok : Bool) (h : Hid (planeB zs b = ok)) :
    Calls Try.prog 100 #[.agg #[.slice a zs.length c, .int .i64 b]] w (RetB ok w) := by
  have hB := below_alloc w (.cells #[.slice a zs.length c, .int .i64 b] 28)
  have hr1 := hr.below hB
  have HB := Lib.hid hB
  clear hB hr
  cases hl : (decide ((1 : Int) ≤ zs.length) && decide ((zs.length : Int) ≤ 4))
  · have e : ok = false := by
      rw [← h.out]
      cases hp : planeB zs b
      · rfl
      · have := (planeB_iff zs b).1 hp
        simp at hl; omega
    have HL := Lib.hid hl
    clear h hl
    subst e
    go_enter Try.func100, Try.ntmps100
    go_wp2_with fail
    refine (in_any _ _ _ _ false HL).mono ?_
    rintro e w' ⟨rfl, rfl⟩
    go_wp2_with fail
    go_ret
    exact ⟨rfl, HB.out⟩
  · cases hx : numsB 99 zs
    · have e : ok = false := by
        rw [← h.out]
        cases hp : planeB zs b
        · rfl
        · have := (planeB_iff zs b).1 hp
          simp_all
      have HL := Lib.hid hl
      have HX := Lib.hid hx
      clear h hl hx
      subst e
      go_enter Try.func100, Try.ntmps100
      go_wp2_with fail
      refine (in_any _ _ _ _ true HL).mono ?_
      rintro e w' ⟨rfl, rfl⟩
      go_wp2_with fail
      refine (spec_nums a zs c 99 _ hr1 hn (by omega) (by omega) false HX).mono ?_
      rintro e w' ⟨rfl, rfl⟩
      go_wp2_with fail
      go_ret
      exact ⟨rfl, HB.out⟩
    · have HY : Hid (inB 99 b = ok) := by
        rw [← h.out]
        show inB 99 b = planeB zs b
        simp at hl
        simp [planeB, hx, show 1 ≤ zs.length by omega, show zs.length ≤ 4 by omega]
      have HL := Lib.hid hl
      have HX := Lib.hid hx
      clear h hl hx
      unfold inB at HY
      go_enter Try.func100, Try.ntmps100
      go_wp2_with fail
      refine (in_any _ _ _ _ true HL).mono ?_
      rintro e w' ⟨rfl, rfl⟩
      go_wp2_with fail
      refine (spec_nums a zs c 99 _ hr1 hn (by omega) (by omega) true HX).mono ?_
      rintro e w' ⟨rfl, rfl⟩
      go_wp2_with fail
      refine (in_any _ _ _ _ ok HY).mono ?_
      rintro e w' ⟨rfl, rfl⟩
      go_wp2_with fail
      go_ret
      exact ⟨rfl, HB.out⟩
set_option maxHeartbeats 400000 in
theorem impl_plane (a : Option Addr) (zs : List Int) (c : Nat) (b : Int) (w : World) (hr : ints.Reads .i64 w a zs) (hn : zs.length ≤ 1048576) (ok : Bool) (h : Hid (planeB zs b = ok)) :
    Calls Try.prog 53 #[.agg #[.slice a zs.length c, .int .i64 b]] w (RetB ok w) := by
  have hB := below_alloc w (.cells #[.slice a zs.length c, .int .i64 b] 28)
  have hr1 := hr.below hB
  have HB := Lib.hid hB
  clear hB hr
  by_cases h1 : (1 : Int) ≤ zs.length
  · by_cases h2 : (zs.length : Int) ≤ 4
    · cases hx : numsB 99 zs
      · have e : ok = false := by
          rw [← h.out]
          cases hp : planeB zs b
          · rfl
          · have := (planeB_iff zs b).1 hp
            simp_all
        have HX := Lib.hid hx
        clear h hx
        subst e
        go_enter Try.func53, Try.ntmps53
        go_wp2_with fail
        refine (impl_nums a zs c 99 _ hr1 hn (by omega) (by omega) false HX).mono ?_
        rintro e w' ⟨rfl, rfl⟩
        go_wp2_with fail
        go_ret
        exact ⟨rfl, HB.out⟩
      · have HY : Hid (inB 99 b = ok) := by
          rw [← h.out]
          show inB 99 b = planeB zs b
          simp [planeB, hx, show 1 ≤ zs.length by omega, show zs.length ≤ 4 by omega]
        have HX := Lib.hid hx
        clear h hx
        go_enter Try.func53, Try.ntmps53
        go_wp2_with fail
        refine (impl_nums a zs c 99 _ hr1 hn (by omega) (by omega) true HX).mono ?_
        rintro e w' ⟨rfl, rfl⟩
        go_wp2_with fail
        refine (within_any _ _ _ (by omega) (by omega) ok HY).mono ?_
        rintro e w' ⟨rfl, rfl⟩
        go_wp2_with fail
        go_ret
        exact ⟨rfl, HB.out⟩
    · have e : ok = false := by
        rw [← h.out]
        cases hp : planeB zs b
        · rfl
        · have := (planeB_iff zs b).1 hp
          omega
      clear h
      subst e
      go_enter Try.func53, Try.ntmps53
      go_wp2_with fail
      go_ret
      exact ⟨rfl, HB.out⟩
  · have e : ok = false := by
      rw [← h.out]
      cases hp : planeB zs b
      · rfl
      · have := (planeB_iff zs b).1 hp
        omega
    clear h
    subst e
    have hz : zs = [] := List.length_eq_zero_iff.1 (by omega)
    subst hz
    go_enter Try.func53, Try.ntmps53
    go_wp2_with fail
    go_ret
    exact ⟨rfl, HB.out⟩
end Go.Proofs.Ytldimbipjjjghaa.planes

namespace Go.Proofs.Ytldimbipjjjghaa.dots
open Go.RowKit own pp nums planes
set_option linter.unusedVariables false

/-- It returns a number, and draws alone. -/
def Tells (n : Int) (w : World) (e : Ending) (w' : World) : Prop := e = .returned (.int .i64 n) ∧ ∃ m, w' = w.drewN m

theorem drewN_all (w : World) : w = w.drewN 0 := rfl

set_option maxHeartbeats 800000 in
theorem spec_dot (a : Option Addr) (xs : List Int) (c : Nat) (a' : Option Addr) (ys : List Int) (c' : Nat) (w : World) (hr : ints.Reads .i64 w a xs) (hr' : ints.Reads .i64 w a' ys) (hn : xs.length ≤ 1048576) (hl : xs.length ≤ ys.length) (hm : ys.length ≤ 1048576) (hS : Small xs ys) :
    Calls Try.prog 105 #[.slice a xs.length c, .slice a' ys.length c'] w (Tells (dot xs ys) w) := by
  have HS := Lib.hid hS
  clear hS
  go_enter Try.func105, Try.ntmps105
  go_wp2_with fail
  go_loopw [5, 6] (fun s i wr => ∃ k : Nat, k ≤ xs.length ∧ i = .int .i64 k ∧ s = .int .i64 (dotTo xs ys k) ∧ ∃ n, wr = w.drewN n) (fun _ i _ => xs.length - (intOf i).toNat)
  case atStart => exact ⟨0, Nat.zero_le _, rfl, rfl, 0, rfl⟩
  case round =>
    obtain ⟨k, hk, rfl, rfl, n, rfl⟩ := hrel
    by_cases hlt : k < xs.length
    · obtain ⟨b, off, rfl, hb, hc⟩ := hr.at hlt
      obtain ⟨b', off', rfl, hb', hc'⟩ := hr'.at (k := k) (by omega)
      have hbd := dotTo_bd HS.out k hk
      have hx := HS.out k hlt
      have HT := Lib.hid (dotTo_succ xs ys k)
      generalize hs : xs.getD k 0 = x at *
      generalize hs' : ys.getD k 0 = y at *
      generalize hd : dotTo xs ys k = s at *
      clear hs hs' hd
      have e1 : IntKind.i64.wrap (x * y) = x * y := IntWalk.i64_in _ (by omega)
      have e2 : IntKind.i64.wrap (s + x * y) = s + x * y := IntWalk.i64_in _ (by omega)
      have i1 : (0 : Int) ≤ (k : Int) := by omega
      have i2 : (k : Int) < (xs.length : Int) := by omega
      have i3 : (k : Int) < (ys.length : Int) := by omega
      go_wp2_with fail
      go_quiet (fail)
      clear e1 e2
      go_wp2_with fail
      go_roundw
      case rel => exact ⟨k + 1, by omega, by go_num, by rw [HT.out], _, rfl⟩
      case measure => simp [intOf]; omega
    · obtain rfl : k = xs.length := by omega
      go_wp2_with fail
      go_ret
      exact ⟨rfl, _, rfl⟩
set_option maxHeartbeats 800000 in
theorem impl_dot (a : Option Addr) (xs : List Int) (c : Nat) (a' : Option Addr) (ys : List Int) (c' : Nat) (w : World) (hr : ints.Reads .i64 w a xs) (hr' : ints.Reads .i64 w a' ys) (hn : xs.length ≤ 1048576) (hl : xs.length ≤ ys.length) (hm : ys.length ≤ 1048576) (hS : Small xs ys) :
    Calls Try.prog 109 #[.slice a xs.length c, .slice a' ys.length c'] w (Tells (dot xs ys) w) := by
  have HS := Lib.hid hS
  clear hS
  go_enter Try.func109, Try.ntmps109
  go_wp2_with fail
  go_loopw [5, 9] (fun s i wr => ∃ k : Nat, k ≤ xs.length ∧ i = .int .i64 k ∧ s = .int .i64 (dotTo xs ys k) ∧ ∃ n, wr = w.drewN n) (fun _ i _ => xs.length - (intOf i).toNat)
  case atStart => exact ⟨0, Nat.zero_le _, rfl, rfl, 0, rfl⟩
  case round =>
    obtain ⟨k, hk, rfl, rfl, n, rfl⟩ := hrel
    by_cases hlt : k < xs.length
    · obtain ⟨b, off, rfl, hb, hc⟩ := hr.at hlt
      obtain ⟨b', off', rfl, hb', hc'⟩ := hr'.at (k := k) (by omega)
      have hbd := dotTo_bd HS.out k hk
      have hx := HS.out k hlt
      have HT := Lib.hid (dotTo_succ xs ys k)
      generalize hs : xs.getD k 0 = x at *
      generalize hs' : ys.getD k 0 = y at *
      generalize hd : dotTo xs ys k = s at *
      clear hs hs' hd
      have e1 : IntKind.i64.wrap (x * y) = x * y := IntWalk.i64_in _ (by omega)
      have e2 : IntKind.i64.wrap (s + x * y) = s + x * y := IntWalk.i64_in _ (by omega)
      have i1 : (0 : Int) ≤ (k : Int) := by omega
      have i2 : (k : Int) < (xs.length : Int) := by omega
      have i3 : (k : Int) < (ys.length : Int) := by omega
      go_wp2_with fail
      go_quiet (fail)
      clear e1 e2
      go_wp2_with fail
      go_roundw
      case rel => exact ⟨k + 1, by omega, by go_num, by rw [HT.out], _, rfl⟩
      case measure => simp [intOf]; omega
    · obtain rfl : k = xs.length := by omega
      go_wp2_with fail
      go_ret
      exact ⟨rfl, _, rfl⟩
set_option maxHeartbeats 800000 in
theorem spec_side (a : Option Addr) (ws : List Int) (c : Nat) (b : Int) (a' : Option Addr) (xs : List Int) (c' : Nat) (w : World) (hr : ints.Reads .i64 w a ws) (hr' : ints.Reads .i64 w a' xs) (hn : ws.length ≤ 1048576) (hl : ws.length ≤ xs.length) (hm : xs.length ≤ 1048576) (hS : Small ws xs) :
    Calls Try.prog 133 #[.agg #[.slice a ws.length c, .int .i64 b], .slice a' xs.length c'] w (RetN (side ws b xs) w) := by
  have hB := below_alloc w (.cells #[.slice a ws.length c, .int .i64 b] 28)
  have hr1 := hr.below hB
  have hr1' := hr'.below hB
  have HB := Lib.hid hB
  have HS := Lib.hid hS
  have HD := Lib.hid (show side ws b xs = if b ≤ dot ws xs then 1 else -1 from rfl)
  have HC := Lib.hid (show ∀ n : Nat, Calls Try.prog 105 #[.slice a ws.length c, .slice a' xs.length c'] ((w.alloc (.cells #[.slice a ws.length c, .int .i64 b] 28)).drewN n) (Tells (dot ws xs) ((w.alloc (.cells #[.slice a ws.length c, .int .i64 b] 28)).drewN n)) from fun n => spec_dot a ws c a' xs c' _ hr1 hr1' hn hl hm hS)
  clear hB hr hr' hS
  generalize dot ws xs = d at *
  generalize side ws b xs = s at *
  by_cases hd : b ≤ d
  · have hd' : decide (b ≤ d) = true := by simpa using hd
    have e := HD.out
    rw [if_pos hd] at e
    subst e
    go_enter Try.func133, Try.ntmps133
    go_wp2_with fail
    go_quiet ((go_at_call 105; exact Calls.quiet_of (HC.out _)))
    go_wp2_with fail
    go_ret
    exact ⟨rfl, ints.below_drewN HB.out _⟩
  · have hd' : decide (b ≤ d) = false := by simpa using hd
    have e := HD.out
    rw [if_neg hd] at e
    subst e
    go_enter Try.func133, Try.ntmps133
    go_wp2_with fail
    go_quiet ((go_at_call 105; exact Calls.quiet_of (HC.out _)))
    go_wp2_with fail
    go_ret
    exact ⟨rfl, ints.below_drewN HB.out _⟩
set_option maxHeartbeats 800000 in
theorem impl_side (a : Option Addr) (ws : List Int) (c : Nat) (b : Int) (a' : Option Addr) (xs : List Int) (c' : Nat) (w : World) (hr : ints.Reads .i64 w a ws) (hr' : ints.Reads .i64 w a' xs) (hn : ws.length ≤ 1048576) (hl : ws.length ≤ xs.length) (hm : xs.length ≤ 1048576) (hS : Small ws xs) :
    Calls Try.prog 122 #[.agg #[.slice a ws.length c, .int .i64 b], .slice a' xs.length c'] w (RetN (side ws b xs) w) := by
  have hB := below_alloc w (.cells #[.slice a ws.length c, .int .i64 b] 28)
  have hr1 := hr.below hB
  have hr1' := hr'.below hB
  have HB := Lib.hid hB
  have HS := Lib.hid hS
  have HD := Lib.hid (show side ws b xs = if b ≤ dot ws xs then 1 else -1 from rfl)
  have HC := Lib.hid (show ∀ n : Nat, Calls Try.prog 109 #[.slice a ws.length c, .slice a' xs.length c'] ((w.alloc (.cells #[.slice a ws.length c, .int .i64 b] 28)).drewN n) (Tells (dot ws xs) ((w.alloc (.cells #[.slice a ws.length c, .int .i64 b] 28)).drewN n)) from fun n => impl_dot a ws c a' xs c' _ hr1 hr1' hn hl hm hS)
  clear hB hr hr' hS
  generalize dot ws xs = d at *
  generalize side ws b xs = s at *
  by_cases hd : b ≤ d
  · have hd' : decide (b ≤ d) = true := by simpa using hd
    have e := HD.out
    rw [if_pos hd] at e
    subst e
    go_enter Try.func122, Try.ntmps122
    go_wp2_with fail
    go_quiet ((go_at_call 109; exact Calls.quiet_of (HC.out _)))
    go_wp2_with fail
    go_ret
    exact ⟨rfl, ints.below_drewN HB.out _⟩
  · have hd' : decide (b ≤ d) = false := by simpa using hd
    have e := HD.out
    rw [if_neg hd] at e
    subst e
    go_enter Try.func122, Try.ntmps122
    go_wp2_with fail
    go_quiet ((go_at_call 109; exact Calls.quiet_of (HC.out _)))
    go_wp2_with fail
    go_ret
    exact ⟨rfl, ints.below_drewN HB.out _⟩
end Go.Proofs.Ytldimbipjjjghaa.dots

namespace Go.Proofs.Ytldimbipjjjghaa.has
open Go.RowKit own pp nums
set_option linter.unusedVariables false

/-- Whether a list has a number. -/
def hasB (zs : List Int) (n : Int) : Bool := zs.contains n
theorem hasB_at {zs : List Int} {n : Int} {k : Nat} (hk : k < zs.length) (h : zs.getD k 0 = n) : hasB zs n = true := by
  unfold hasB
  rw [List.contains_iff_mem, ← h, List.getD_eq_getElem?_getD, List.getElem?_eq_getElem hk]
  exact List.getElem_mem hk
theorem hasB_none {zs : List Int} {n : Int} (h : ∀ k, k < zs.length → zs.getD k 0 ≠ n) : hasB zs n = false := by
  cases hb : hasB zs n
  · rfl
  · exfalso
    unfold hasB at hb
    rw [List.contains_iff_mem] at hb
    obtain ⟨i, hi, e⟩ := List.getElem_of_mem hb
    exact h i hi (by rw [List.getD_eq_getElem?_getD, List.getElem?_eq_getElem hi]; exact e)
theorem hasB_ex {zs : List Int} {n : Int} (h : hasB zs n = true) : ∃ k, k < zs.length ∧ zs.getD k 0 = n := by
  unfold hasB at h
  rw [List.contains_iff_mem] at h
  obtain ⟨i, hi, e⟩ := List.getElem_of_mem h
  exact ⟨i, hi, by rw [List.getD_eq_getElem?_getD, List.getElem?_eq_getElem hi]; exact e⟩

set_option maxHeartbeats 400000 in
theorem spec_has (a : Option Addr) (zs : List Int) (c : Nat) (n : Int) (w : World) (hr : ints.Reads .i64 w a zs) (hn : zs.length ≤ 1048576) (ok : Bool) (h : Hid (hasB zs n = ok)) :
    Calls Try.prog 155 #[.slice a zs.length c, .int .i64 n] w (Says ok w) := by
  go_enter Try.func155, Try.ntmps155
  go_wp2_with fail
  go_loop [5] (fun i => ∃ k : Nat, k ≤ zs.length ∧ i = .int .i64 k ∧ Hid (∀ j, j < k → zs.getD j 0 ≠ n)) (fun i => zs.length - (intOf i).toNat)
  case atStart => exact ⟨0, Nat.zero_le _, rfl, fun j hj => by omega⟩
  case round =>
    obtain ⟨k, hk, rfl, hj⟩ := hrel
    by_cases hlt : k < zs.length
    · obtain ⟨b, off, rfl, hb, hc⟩ := hr.at hlt
      by_cases hx : zs.getD k 0 = n
      · have e : ok = true := by rw [← h.out]; exact hasB_at hlt hx
        clear h hj
        subst e
        rw [hx] at hc
        clear hx
        go_wp2_with fail
        go_ret
        exact ⟨rfl, rfl⟩
      · have HJ : Hid (∀ j, j < k + 1 → zs.getD j 0 ≠ n) := fun j h => by
          by_cases e : j = k
          · rw [e]; exact hx
          · exact hj.out j (by omega)
        have f1 : (zs.getD k 0 == n) = false := by simpa using hx
        clear hx hj
        generalize hs : zs.getD k 0 = s at *
        clear hs
        go_wp2_with fail
        go_round
        case rel => exact ⟨k + 1, by omega, by go_num, HJ⟩
        case measure => simp [intOf]; omega
    · have : k = zs.length := by omega
      have e : ok = false := by rw [← h.out]; exact hasB_none (fun j hj' => hj.out j (by omega))
      clear h hj
      subst this
      subst e
      go_wp2_with fail
      go_ret
      exact ⟨rfl, rfl⟩
end Go.Proofs.Ytldimbipjjjghaa.has
