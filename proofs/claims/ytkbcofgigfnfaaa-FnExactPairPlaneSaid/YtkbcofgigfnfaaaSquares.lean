/- The walks of the model's and the program's squares of distances. -/
import Derived.Test.YtkbcofgigfnfaaaDots
namespace Go.Proofs.Ytkbcofgigfnfaaa.squares
open Go.RowKit own pp nums planes dots
set_option linter.unusedVariables false

def sqTo (xs ys : List Int) (k : Nat) : Int := ((List.range k).map fun i => (xs.getD i 0 - ys.getD i 0) * (xs.getD i 0 - ys.getD i 0)).sum
def sq (xs ys : List Int) : Int := sqTo xs ys xs.length
theorem sqTo_zero (xs ys : List Int) : sqTo xs ys 0 = 0 := rfl
theorem sqTo_succ (xs ys : List Int) (k : Nat) : sqTo xs ys (k + 1) = sqTo xs ys k + (xs.getD k 0 - ys.getD k 0) * (xs.getD k 0 - ys.getD k 0) := by
  simp [sqTo, List.range_succ, List.sum_append]
theorem sqTo_bd {xs ys : List Int} (hx : numsB 9 xs = true) (hy : numsB 9 ys = true) (hl : xs.length = ys.length) (k : Nat) (hk : k ≤ xs.length) : 0 ≤ sqTo xs ys k ∧ sqTo xs ys k ≤ 324 * (k : Int) := by
  induction k with
  | zero => simp [sqTo_zero]
  | succ k ih =>
    have h1 := ih (by omega)
    have a := numsB_at hx k (by omega)
    have b := numsB_at hy k (by omega)
    have c := mul_bd (x := xs.getD k 0 - ys.getD k 0) (y := xs.getD k 0 - ys.getD k 0) (A := 18) (B := 18) (by omega) (by omega) (by omega) (by omega)
    have d : 0 ≤ (xs.getD k 0 - ys.getD k 0) * (xs.getD k 0 - ys.getD k 0) := by
      rcases Int.le_total 0 (xs.getD k 0 - ys.getD k 0) with h | h
      · exact Int.mul_nonneg h h
      · exact Int.mul_nonneg_of_nonpos_of_nonpos h h
    rw [sqTo_succ]
    omega
def pairB (xs ys : List Int) : Bool := pointB xs && pointB ys && decide (xs.length = ys.length)
theorem pairB_iff (xs ys : List Int) : pairB xs ys = true ↔ pointB xs = true ∧ pointB ys = true ∧ xs.length = ys.length := by simp [pairB, and_assoc]

set_option maxHeartbeats 1000000 in
theorem spec_sq (a : Option Addr) (xs : List Int) (c : Nat) (a' : Option Addr) (ys : List Int) (c' : Nat) (w : World) (hr : ints.Reads .i64 w a xs) (hq : ints.Reads .i64 w a' ys) (hn : xs.length ≤ 1048576) (hm : ys.length ≤ 1048576) (hX : numsB 9 xs = true) (hY : numsB 9 ys = true) (hl : xs.length = ys.length) :
    Calls Try.prog 116 #[.slice a xs.length c, .slice a' ys.length c'] w (Tells (sq xs ys) w) := by
  have HX := Lib.hid hX
  have HY := Lib.hid hY
  have HL := Lib.hid hl
  clear hX hY hl
  go_enter Try.func116, Try.ntmps116
  go_wp2_with fail
  go_loopw [5, 6] (fun s i wr => ∃ k : Nat, k ≤ xs.length ∧ i = .int .i64 k ∧ s = .int .i64 (sqTo xs ys k) ∧ ∃ n, wr = w.drewN n) (fun _ i _ => xs.length - (intOf i).toNat)
  case atStart => exact ⟨0, Nat.zero_le _, rfl, rfl, 0, rfl⟩
  case round =>
    obtain ⟨k, hk, rfl, rfl, n, rfl⟩ := hrel
    have hll := HL.out
    by_cases hlt : k < xs.length
    · obtain ⟨b, off, rfl, hb, hc⟩ := hr.at hlt
      obtain ⟨b', off', rfl, hb', hc'⟩ := hq.at (k := k) (by omega)
      have hx := numsB_at HX.out k hlt
      have hy := numsB_at HY.out k (by omega)
      have hbd := sqTo_bd HX.out HY.out HL.out k hk
      have hmul := mul_bd (x := xs.getD k 0 - ys.getD k 0) (y := xs.getD k 0 - ys.getD k 0) (A := 18) (B := 18) (by omega) (by omega) (by omega) (by omega)
      have HT := Lib.hid (sqTo_succ xs ys k)
      generalize hs : xs.getD k 0 = x at *
      generalize hs' : ys.getD k 0 = y at *
      generalize hd : sqTo xs ys k = s at *
      clear hs hs' hd
      have e0 : IntKind.i64.wrap (x - y) = x - y := IntWalk.i64_in _ (by omega)
      have e1 : IntKind.i64.wrap ((x - y) * (x - y)) = (x - y) * (x - y) := IntWalk.i64_in _ (by omega)
      have e2 : IntKind.i64.wrap (s + (x - y) * (x - y)) = s + (x - y) * (x - y) := IntWalk.i64_in _ (by omega)
      have i1 : (0 : Int) ≤ (k : Int) := by omega
      have i2 : (k : Int) < (xs.length : Int) := by omega
      have i3 : (k : Int) < (ys.length : Int) := by omega
      have hll' : xs.length ≤ ys.length := by omega
      clear hll
      go_wp2_with fail
      go_quiet (fail)
      clear e0 e1 e2
      go_wp2_with fail
      go_roundw
      case rel => exact ⟨k + 1, by omega, by go_num, by rw [HT.out], _, rfl⟩
      case measure => simp [intOf]; omega
    · obtain rfl : k = xs.length := by omega
      clear hll
      go_wp2_with fail
      go_ret
      exact ⟨rfl, _, rfl⟩
set_option maxHeartbeats 1000000 in
theorem impl_no (a : Option Addr) (xs : List Int) (c : Nat) (a' : Option Addr) (ys : List Int) (c' : Nat) (w : World) (hr : ints.Reads .i64 w a xs) (hq : ints.Reads .i64 w a' ys) (hn : xs.length ≤ 1048576) (hm : ys.length ≤ 1048576) (h : Hid (pairB xs ys = false)) :
    Calls Try.prog 84 #[.slice a xs.length c, .slice a' ys.length c'] w (RetNB 0 false w) := by
  cases hp : pointB xs
  · have HP := Lib.hid hp
    clear h hp
    go_enter Try.func84, Try.ntmps84
    go_wp2_with fail
    refine (impl_point a xs c _ hr hn false HP).mono ?_
    rintro e w' ⟨rfl, rfl⟩
    go_wp2_with fail
    go_ret2
    exact ⟨rfl, Below.refl _ _⟩
  cases hq' : pointB ys
  · have HP := Lib.hid hp
    have HQ := Lib.hid hq'
    clear h hp hq'
    go_enter Try.func84, Try.ntmps84
    go_wp2_with fail
    refine (impl_point a xs c _ hr hn true HP).mono ?_
    rintro e w' ⟨rfl, rfl⟩
    go_wp2_with fail
    refine (impl_point a' ys c' _ hq hm false HQ).mono ?_
    rintro e w' ⟨rfl, rfl⟩
    go_wp2_with fail
    go_ret2
    exact ⟨rfl, Below.refl _ _⟩
  have hl : ¬ xs.length = ys.length := fun e => by have := h.out; simp [pairB, hp, hq', e] at this
  have g1 : ((xs.length : Int) != (ys.length : Int)) = true := by simp; omega
  have HP := Lib.hid hp
  have HQ := Lib.hid hq'
  clear h hp hq' hl
  go_enter Try.func84, Try.ntmps84
  go_wp2_with fail
  refine (impl_point a xs c _ hr hn true HP).mono ?_
  rintro e w' ⟨rfl, rfl⟩
  go_wp2_with fail
  refine (impl_point a' ys c' _ hq hm true HQ).mono ?_
  rintro e w' ⟨rfl, rfl⟩
  go_wp2_with fail
  go_ret2
  exact ⟨rfl, Below.refl _ _⟩
set_option maxHeartbeats 1000000 in
theorem impl_yes (a : Option Addr) (xs : List Int) (c : Nat) (a' : Option Addr) (ys : List Int) (c' : Nat) (w : World) (hr : ints.Reads .i64 w a xs) (hq : ints.Reads .i64 w a' ys) (hn : xs.length ≤ 1048576) (hm : ys.length ≤ 1048576) (h : Hid (pairB xs ys = true)) :
    Calls Try.prog 84 #[.slice a xs.length c, .slice a' ys.length c'] w (RetNB (sq xs ys) true w) := by
  obtain ⟨hp, hq', hl⟩ := (pairB_iff _ _).1 h.out
  have g1 : ((xs.length : Int) != (ys.length : Int)) = false := by simp [hl]
  have HX := Lib.hid ((pointB_iff _).1 hp).2.2
  have HY := Lib.hid ((pointB_iff _).1 hq').2.2
  have HL := Lib.hid hl
  have HP := Lib.hid hp
  have HQ := Lib.hid hq'
  clear h hp hq' hl
  go_enter Try.func84, Try.ntmps84
  go_wp2_with fail
  refine (impl_point a xs c _ hr hn true HP).mono ?_
  rintro e w' ⟨rfl, rfl⟩
  go_wp2_with fail
  refine (impl_point a' ys c' _ hq hm true HQ).mono ?_
  rintro e w' ⟨rfl, rfl⟩
  go_wp2_with fail
  go_loopw [6, 26] (fun s i wr => ∃ k : Nat, k ≤ xs.length ∧ i = .int .i64 k ∧ s = .int .i64 (sqTo xs ys k) ∧ ∃ n, wr = w.drewN n) (fun _ i _ => xs.length - (intOf i).toNat)
  case atStart => exact ⟨0, Nat.zero_le _, rfl, rfl, 0, rfl⟩
  case round =>
    obtain ⟨k, hk, rfl, rfl, n, rfl⟩ := hrel
    have hll := HL.out
    by_cases hlt : k < xs.length
    · obtain ⟨b, off, rfl, hb, hc⟩ := hr.at hlt
      obtain ⟨b', off', rfl, hb', hc'⟩ := hq.at (k := k) (by omega)
      have hx := numsB_at HX.out k hlt
      have hy := numsB_at HY.out k (by omega)
      have hbd := sqTo_bd HX.out HY.out HL.out k hk
      have hmul := mul_bd (x := xs.getD k 0 - ys.getD k 0) (y := xs.getD k 0 - ys.getD k 0) (A := 18) (B := 18) (by omega) (by omega) (by omega) (by omega)
      have HT := Lib.hid (sqTo_succ xs ys k)
      generalize hs : xs.getD k 0 = x at *
      generalize hs' : ys.getD k 0 = y at *
      generalize hd : sqTo xs ys k = s at *
      clear hs hs' hd
      have e0 : IntKind.i64.wrap (x - y) = x - y := IntWalk.i64_in _ (by omega)
      have e1 : IntKind.i64.wrap ((x - y) * (x - y)) = (x - y) * (x - y) := IntWalk.i64_in _ (by omega)
      have e2 : IntKind.i64.wrap (s + (x - y) * (x - y)) = s + (x - y) * (x - y) := IntWalk.i64_in _ (by omega)
      have i1 : (0 : Int) ≤ (k : Int) := by omega
      have i2 : (k : Int) < (xs.length : Int) := by omega
      have i3 : (k : Int) < (ys.length : Int) := by omega
      have hll' : xs.length ≤ ys.length := by omega
      clear hll
      go_wp2_with fail
      go_quiet (fail)
      go_wp2_with fail
      clear e0 e1 e2
      go_roundw
      case rel => exact ⟨k + 1, by omega, by go_num, by rw [HT.out], _, rfl⟩
      case measure => simp [intOf]; omega
    · obtain rfl : k = xs.length := by omega
      clear hll
      go_wp2_with fail
      go_ret2
      exact ⟨rfl, ints.below_drewN (Below.refl _ _) _⟩
end Go.Proofs.Ytkbcofgigfnfaaa.squares
