/- The walks of the model's and the program's products and sides. -/
import Derived.Test.YtkbcofgigfnfaaaPlanes
namespace Go.Proofs.Ytkbcofgigfnfaaa.dots
open Go.RowKit own pp nums planes
set_option linter.unusedVariables false

/-- It returns a number, and draws alone. -/
def Tells (n : Int) (w : World) (e : Ending) (w' : World) : Prop := e = .returned (.int .i64 n) ∧ ∃ m, w' = w.drewN m

theorem drewN_all (w : World) : w = w.drewN 0 := rfl

set_option maxHeartbeats 800000 in
theorem spec_dot (a : Option Addr) (xs : List Int) (c : Nat) (a' : Option Addr) (ys : List Int) (c' : Nat) (w : World) (hr : ints.Reads .i64 w a xs) (hr' : ints.Reads .i64 w a' ys) (hn : xs.length ≤ 1048576) (hl : xs.length ≤ ys.length) (hm : ys.length ≤ 1048576) (hS : Small xs ys) :
    Calls Try.prog 82 #[.slice a xs.length c, .slice a' ys.length c'] w (Tells (dot xs ys) w) := by
  have HS := Lib.hid hS
  clear hS
  go_enter Try.func82, Try.ntmps82
  go_wp2_with fail
  go_loopw [5, 6] (fun s i wr => ∃ k : Nat, k ≤ xs.length ∧ i = .int .i64 k ∧ s = .int .i64 (dotTo xs ys k) ∧ ∃ n, wr = w.drewN n) (fun _ i _ => xs.length - (intOf i).toNat)
  case atStart => exact ⟨0, Nat.zero_le _, rfl, rfl, 0, rfl⟩
  case round =>
    obtain ⟨k, hk, rfl, rfl, n, rfl⟩ := hrel
    by_cases hlt : k < xs.length
    · obtain ⟨b, off, rfl, hb, hc⟩ := hr.at hlt
      obtain ⟨b', off', rfl, hb', hc'⟩ := hr'.at (k := k) (by omega)
      have hbd := dotTo_bd HS.out k hk
      have hx := HS.out k hlt
      have HT := Lib.hid (dotTo_succ xs ys k)
      generalize hs : xs.getD k 0 = x at *
      generalize hs' : ys.getD k 0 = y at *
      generalize hd : dotTo xs ys k = s at *
      clear hs hs' hd
      have e1 : IntKind.i64.wrap (x * y) = x * y := IntWalk.i64_in _ (by omega)
      have e2 : IntKind.i64.wrap (s + x * y) = s + x * y := IntWalk.i64_in _ (by omega)
      have i1 : (0 : Int) ≤ (k : Int) := by omega
      have i2 : (k : Int) < (xs.length : Int) := by omega
      have i3 : (k : Int) < (ys.length : Int) := by omega
      go_wp2_with fail
      go_quiet (fail)
      clear e1 e2
      go_wp2_with fail
      go_roundw
      case rel => exact ⟨k + 1, by omega, by go_num, by rw [HT.out], _, rfl⟩
      case measure => simp [intOf]; omega
    · obtain rfl : k = xs.length := by omega
      go_wp2_with fail
      go_ret
      exact ⟨rfl, _, rfl⟩
set_option maxHeartbeats 800000 in
theorem impl_dot (a : Option Addr) (xs : List Int) (c : Nat) (a' : Option Addr) (ys : List Int) (c' : Nat) (w : World) (hr : ints.Reads .i64 w a xs) (hr' : ints.Reads .i64 w a' ys) (hn : xs.length ≤ 1048576) (hl : xs.length ≤ ys.length) (hm : ys.length ≤ 1048576) (hS : Small xs ys) :
    Calls Try.prog 86 #[.slice a xs.length c, .slice a' ys.length c'] w (Tells (dot xs ys) w) := by
  have HS := Lib.hid hS
  clear hS
  go_enter Try.func86, Try.ntmps86
  go_wp2_with fail
  go_loopw [5, 9] (fun s i wr => ∃ k : Nat, k ≤ xs.length ∧ i = .int .i64 k ∧ s = .int .i64 (dotTo xs ys k) ∧ ∃ n, wr = w.drewN n) (fun _ i _ => xs.length - (intOf i).toNat)
  case atStart => exact ⟨0, Nat.zero_le _, rfl, rfl, 0, rfl⟩
  case round =>
    obtain ⟨k, hk, rfl, rfl, n, rfl⟩ := hrel
    by_cases hlt : k < xs.length
    · obtain ⟨b, off, rfl, hb, hc⟩ := hr.at hlt
      obtain ⟨b', off', rfl, hb', hc'⟩ := hr'.at (k := k) (by omega)
      have hbd := dotTo_bd HS.out k hk
      have hx := HS.out k hlt
      have HT := Lib.hid (dotTo_succ xs ys k)
      generalize hs : xs.getD k 0 = x at *
      generalize hs' : ys.getD k 0 = y at *
      generalize hd : dotTo xs ys k = s at *
      clear hs hs' hd
      have e1 : IntKind.i64.wrap (x * y) = x * y := IntWalk.i64_in _ (by omega)
      have e2 : IntKind.i64.wrap (s + x * y) = s + x * y := IntWalk.i64_in _ (by omega)
      have i1 : (0 : Int) ≤ (k : Int) := by omega
      have i2 : (k : Int) < (xs.length : Int) := by omega
      have i3 : (k : Int) < (ys.length : Int) := by omega
      go_wp2_with fail
      go_quiet (fail)
      clear e1 e2
      go_wp2_with fail
      go_roundw
      case rel => exact ⟨k + 1, by omega, by go_num, by rw [HT.out], _, rfl⟩
      case measure => simp [intOf]; omega
    · obtain rfl : k = xs.length := by omega
      go_wp2_with fail
      go_ret
      exact ⟨rfl, _, rfl⟩
/-- A number that can be taken from a product. -/
def Mid (b : Int) : Prop := -4000000000000000000 ≤ b ∧ b ≤ 4000000000000000000
theorem mid_plane {ws : List Int} {b : Int} (h : planeB ws b = true) : Mid b := by
  have := (inB_iff _ _).1 ((planeB_iff _ _).1 h).2.2.2
  unfold Mid; omega
def lab (n : Int) : Int := if 0 ≤ n then 1 else -1
set_option maxHeartbeats 400000 in
theorem impl_lab (n : Int) (w : World) : Calls Try.prog 119 #[.int .i64 n] w (Tells (lab n) w) := by
  have HD := Lib.hid (show lab n = if 0 ≤ n then 1 else -1 from rfl)
  generalize lab n = s at *
  by_cases hd : 0 ≤ n
  · have hd' : decide (0 ≤ n) = true := by simpa using hd
    have e := HD.out
    rw [if_pos hd] at e
    subst e
    go_enter Try.func119, Try.ntmps119
    go_wp2_with fail
    go_ret
    exact ⟨rfl, 0, rfl⟩
  · have hd' : decide (0 ≤ n) = false := by simpa using hd
    have e := HD.out
    rw [if_neg hd] at e
    subst e
    go_enter Try.func119, Try.ntmps119
    go_wp2_with fail
    go_ret
    exact ⟨rfl, 0, rfl⟩
end Go.Proofs.Ytkbcofgigfnfaaa.dots
