/- The walks of the greatest common divisors, and of what is divided by them. -/
import Derived.Test.YtplhcboecjegjaaMost
import Derived.Test.YtplhcboecjegjaaMk
import Derived.Test.YtplhcboecjegjaaBothI
import Derived.Deep.QuietTactic
namespace Go.Proofs.Ytplhcboecjegjaa.gcdw
open Go.RowKit own pp nums mk
set_option linter.unusedVariables false
attribute [local go_sem ↓] Go.wp_at_zero Go.wp_at_succ
set_option linter.unusedSimpArgs false

/-- A fraction without common divisors. -/
def cutP (a : Int) (b : Nat) : Int × Int := (Int.tdiv a (Nat.gcd a.natAbs b : Nat), Int.tdiv (b : Int) (Nat.gcd a.natAbs b : Nat))
theorem tmod_nat (x y : Nat) : Int.tmod (x : Int) (y : Int) = ((x % y : Nat) : Int) := by rw [Int.tmod_eq_emod_of_nonneg (by omega)]; rfl
theorem max_abs (x : Int) : max x (-x) = (x.natAbs : Int) := by omega
theorem gcd_pos {x y : Nat} (h : 0 < y) : 1 ≤ Nat.gcd x y ∧ Nat.gcd x y ≤ y := ⟨Nat.gcd_pos_of_pos_right _ h, Nat.gcd_le_right _ h⟩
theorem tdiv_bd {a : Int} {g : Nat} (B : Nat) (h1 : -(B : Int) ≤ a) (h2 : a ≤ B) : -(B : Int) ≤ Int.tdiv a g ∧ Int.tdiv a g ≤ B := by
  have := Int.natAbs_tdiv_le_natAbs a g
  omega
set_option maxRecDepth 100000 in
set_option maxHeartbeats 4000000 in
theorem spec_gcd (x y : Nat) (w : World) (hx : x ≤ 4611686018427387904) (hy : y ≤ 4611686018427387904) :
    Calls Try.prog 166 #[.int .i64 x, .int .i64 y] w (fun e w' => e = .returned (.int .i64 (Nat.gcd x y : Nat)) ∧ ∃ m, w' = w.drewN m) := by
  obtain ⟨G, hG⟩ : ∃ G, Nat.gcd x y = G := ⟨_, rfl⟩
  have HG := Lib.hid hG
  rw [hG]
  clear hG
  go_enter Try.func166, Try.ntmps166
  go_wp2_with fail
  go_loopw [0, 1] (fun a b wr => ∃ p q m : Nat, a = .int .i64 p ∧ b = .int .i64 q ∧ p ≤ 4611686018427387904 ∧ q ≤ 4611686018427387904 ∧ Hid (Nat.gcd p q = G) ∧ wr = w.drewN m) (fun _ b _ => (intOf b).toNat)
  case atStart => exact ⟨x, y, 0, rfl, rfl, hx, hy, HG, rfl⟩
  case round =>
    clear HG
    obtain ⟨p, q, m, rfl, rfl, hp, hq, hg, rfl⟩ := hrel
    have HM := Lib.hid (show ∀ n, ∃ q, (w.drewN m).drewN n = w.drewN q from fun n => ⟨_, World.drewN_drewN _ _ _⟩)
    by_cases h0 : 0 < q
    · have i1 : (0 : Int) < (q : Int) := by omega
      have i2 : ¬ ((q : Int) = 0) := by omega
      have ht := tmod_nat p q
      have hlt := Nat.mod_lt p h0
      have HG2 := Lib.hid (show Nat.gcd q (p % q) = G by rw [← hg.out, Nat.gcd_comm p q, Nat.gcd_rec q p, Nat.gcd_comm])
      have hb : p % q ≤ 4611686018427387904 := by omega
      clear hg
      generalize w.drewN m = wm at *
      go_wp2_with fail
      go_quiet (fail)
      go_wp2_with fail
      go_roundw
      case rel => obtain ⟨r, hr⟩ := HM.out _; exact ⟨q, p % q, r, by first | rfl | go_num, by first | rfl | (rw [ht]) | go_num, hq, hb, HG2, hr⟩
      case measure => simp only [intOf]; omega
    · obtain rfl : q = 0 := by omega
      have hgp : p = G := by rw [← hg.out, Nat.gcd_zero_right]
      clear hg
      subst hgp
      go_wp2_with fail
      go_ret
      exact ⟨rfl, m, rfl⟩
set_option maxRecDepth 100000 in
set_option maxHeartbeats 4000000 in
theorem impl_first (x : Int) (w : World) (h1 : -4611686018427387904 ≤ x) (h2 : x ≤ 4611686018427387904) :
    Calls Try.prog 169 #[.int .i64 0, .int .i64 x] w (fun e w' => e = .returned (.int .i64 (x.natAbs : Nat)) ∧ ∃ m, w' = w.drewN m) := by
  have HA := Lib.hid (max_abs x)
  go_enter Try.func169, Try.ntmps169
  go_wp2_with fail
  go_loopw [0, 1] (fun a b wr => ((a = .int .i64 0 ∧ b = .int .i64 x) ∨ (a = .int .i64 x ∧ b = .int .i64 0)) ∧ ∃ m, wr = w.drewN m) (fun _ b _ => (intOf b).natAbs)
  case atStart => exact ⟨.inl ⟨rfl, rfl⟩, 0, rfl⟩
  case round =>
    obtain ⟨hab, m, rfl⟩ := hrel
    have HM := Lib.hid (show ∀ n, ∃ q, (w.drewN m).drewN n = w.drewN q from fun n => ⟨_, World.drewN_drewN _ _ _⟩)
    by_cases h0 : x = 0
    · subst h0
      have hab2 : u0 = .int .i64 0 ∧ u1 = .int .i64 0 := by rcases hab with h | h <;> exact h
      obtain ⟨rfl, rfl⟩ := hab2
      go_wp2_with fail
      go_ret
      exact ⟨rfl, m, rfl⟩
    · rcases hab with ⟨rfl, rfl⟩ | ⟨rfl, rfl⟩
      · have g1 : (x != 0) = true := by rw [bne_iff_ne]; exact h0
        have ht : Int.tmod 0 x = 0 := Int.zero_tmod x
        generalize w.drewN m = wm at *
        go_wp2_with fail
        go_quiet (fail)
        go_wp2_with fail
        go_roundw
        case rel => obtain ⟨r, hr⟩ := HM.out _; exact ⟨.inr ⟨rfl, by first | rfl | (rw [ht]) | go_num⟩, r, hr⟩
        case measure => simp only [intOf]; omega
      · have e1 : IntKind.i64.wrap (-x) = -x := IntWalk.i64_in _ (by omega)
        go_wp2_with fail
        go_ret
        exact ⟨by rw [← HA.out]; rfl, m, rfl⟩
set_option maxRecDepth 100000 in
set_option maxHeartbeats 4000000 in
theorem impl_gcd (x y : Nat) (w : World) (hx : x ≤ 4611686018427387904) (hy : y ≤ 4611686018427387904) :
    Calls Try.prog 169 #[.int .i64 x, .int .i64 y] w (fun e w' => e = .returned (.int .i64 (Nat.gcd x y : Nat)) ∧ ∃ m, w' = w.drewN m) := by
  obtain ⟨G, hG⟩ : ∃ G, Nat.gcd x y = G := ⟨_, rfl⟩
  have HG := Lib.hid hG
  rw [hG]
  clear hG
  go_enter Try.func169, Try.ntmps169
  go_wp2_with fail
  go_loopw [0, 1] (fun a b wr => ∃ p q m : Nat, a = .int .i64 p ∧ b = .int .i64 q ∧ p ≤ 4611686018427387904 ∧ q ≤ 4611686018427387904 ∧ Hid (Nat.gcd p q = G) ∧ wr = w.drewN m) (fun _ b _ => (intOf b).toNat)
  case atStart => exact ⟨x, y, 0, rfl, rfl, hx, hy, HG, rfl⟩
  case round =>
    clear HG
    obtain ⟨p, q, m, rfl, rfl, hp, hq, hg, rfl⟩ := hrel
    have HM := Lib.hid (show ∀ n, ∃ q, (w.drewN m).drewN n = w.drewN q from fun n => ⟨_, World.drewN_drewN _ _ _⟩)
    by_cases h0 : 0 < q
    · have i1 : ((q : Int) != 0) = true := by rw [bne_iff_ne]; omega
      have i2 : ¬ ((q : Int) = 0) := by omega
      have ht := tmod_nat p q
      have hlt := Nat.mod_lt p h0
      have HG2 := Lib.hid (show Nat.gcd q (p % q) = G by rw [← hg.out, Nat.gcd_comm p q, Nat.gcd_rec q p, Nat.gcd_comm])
      have hb : p % q ≤ 4611686018427387904 := by omega
      clear hg
      generalize w.drewN m = wm at *
      go_wp2_with fail
      go_quiet (fail)
      go_wp2_with fail
      go_roundw
      case rel => obtain ⟨r, hr⟩ := HM.out _; exact ⟨q, p % q, r, by first | rfl | go_num, by first | rfl | (rw [ht]) | go_num, hq, hb, HG2, hr⟩
      case measure => simp only [intOf]; omega
    · obtain rfl : q = 0 := by omega
      have hgp : p = G := by rw [← hg.out, Nat.gcd_zero_right]
      clear hg
      subst hgp
      have hmx : max (p : Int) (-(p : Int)) = (p : Int) := by omega
      have e1 : IntKind.i64.wrap (-(p : Int)) = -(p : Int) := IntWalk.i64_in _ (by omega)
      go_wp2_with fail
      go_ret
      exact ⟨by first | rfl | (rw [← hmx]; rfl), m, rfl⟩
end Go.Proofs.Ytplhcboecjegjaa.gcdw
