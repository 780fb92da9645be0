/- The walks of how many places change when a bit becomes 1: the model's and the program's. -/
import Derived.Test.YtcklehfcpengoaaTab
import Derived.Test.YtcklehfcpengoaaBits
import Derived.Test.YtcklehfcpengoaaDig
import Derived.BigQuiet
namespace Go.Proofs.Ytcklehfcpengoaa.moves5
open Go.RowKit own pp nums range tab bitw dig
set_option linter.unusedVariables false
set_option linter.unusedSimpArgs false

/-- What changes at a place without the bit: 1 if another place becomes a one, -1 if a one becomes another place. -/
def kd (zs : List Int) (b k : Nat) : Int := if k / 2 ^ b % 2 = 1 then 0 else zs.getD (k + 2 ^ b) 0 - zs.getD k 0
def upTo (zs : List Int) (b : Nat) : Nat → Nat
  | 0 => 0
  | k + 1 => if kd zs b k = 1 then upTo zs b k + 1 else upTo zs b k
def dnTo (zs : List Int) (b : Nat) : Nat → Nat
  | 0 => 0
  | k + 1 => if kd zs b k = -1 then dnTo zs b k + 1 else dnTo zs b k
theorem up_le (zs : List Int) (b k : Nat) : upTo zs b k ≤ k := by
  induction k with
  | zero => exact Nat.le_refl _
  | succ k ih => unfold upTo; split <;> omega
theorem dn_le (zs : List Int) (b k : Nat) : dnTo zs b k ≤ k := by
  induction k with
  | zero => exact Nat.le_refl _
  | succ k ih => unfold dnTo; split <;> omega
theorem up_hit {zs : List Int} {b k : Nat} (h : kd zs b k = 1) : upTo zs b (k + 1) = upTo zs b k + 1 := by rw [upTo, if_pos h]
theorem up_miss {zs : List Int} {b k : Nat} (h : kd zs b k ≠ 1) : upTo zs b (k + 1) = upTo zs b k := by rw [upTo, if_neg h]
theorem dn_hit {zs : List Int} {b k : Nat} (h : kd zs b k = -1) : dnTo zs b (k + 1) = dnTo zs b k + 1 := by rw [dnTo, if_pos h]
theorem dn_miss {zs : List Int} {b k : Nat} (h : kd zs b k ≠ -1) : dnTo zs b (k + 1) = dnTo zs b k := by rw [dnTo, if_neg h]
theorem other_all : ∀ n : Fin 5, ∀ b : Fin 4, ∀ k : Fin 16, b.val < n.val ∧ k.val < 2 ^ n.val ∧ k.val / 2 ^ b.val % 2 = 0 → k.val + 2 ^ b.val < 2 ^ n.val ∧ (k.val ||| 2 ^ b.val) = k.val + 2 ^ b.val ∧ 2 ^ b.val ≤ 8 := by decide +kernel
theorem other {n b k : Nat} (h4 : n ≤ 4) (hb : b < n) (hk : k < 2 ^ n) (h : k / 2 ^ b % 2 = 0) : k + 2 ^ b < 2 ^ n ∧ (k ||| 2 ^ b) = k + 2 ^ b ∧ 2 ^ b ≤ 8 :=
  other_all ⟨n, by omega⟩ ⟨b, by omega⟩ ⟨k, Nat.lt_of_lt_of_le hk (mk.pow4 h4).2⟩ ⟨hb, hk, h⟩
set_option maxRecDepth 100000 in
set_option maxHeartbeats 4000000 in
theorem impl_moves (n b : Nat) (a : Option Addr) (zs : List Int) (c : Nat) (w : World) (hr : ints.Reads .i64 w a zs) (hk : tab.tabB n zs = true) (hb : b < n) :
    Calls Try.prog 72 #[.slice a zs.length c, .int .i64 b] w (fun e w' => e = .returned (.tuple #[.int .i64 ((upTo zs b zs.length : Nat) : Int), .int .i64 ((dnTo zs b zs.length : Nat) : Int)]) ∧ w' = w) := by
  obtain ⟨m0, he, h4, hpw, h16, hrg⟩ := tab_nat hk
  obtain rfl : n = m0 := by omega
  have HA := Lib.hid (tab_at hk)
  have HL := Lib.hid hpw
  have hb4 : b ≤ 3 := by omega
  clear hk hpw hrg he
  go_enter Try.func72, Try.ntmps72
  go_wp2_with fail
  go_loop [6, 7, 12] (fun u d i => ∃ k : Nat, k ≤ zs.length ∧ i = .int .i64 k ∧ u = .int .i64 ((upTo zs b k : Nat) : Int) ∧ d = .int .i64 ((dnTo zs b k : Nat) : Int)) (fun _ _ i => zs.length - (intOf i).toNat)
  case atStart => exact ⟨0, Nat.zero_le _, rfl, rfl, rfl⟩
  case round =>
    obtain ⟨k, hk, rfl, rfl, rfl⟩ := hrel
    by_cases hlt : k < zs.length
    · have hk16 : k < 16 := by omega
      have HDG := Lib.hid (dig_any k b w hk16 (by omega))
      have hul := up_le zs b k
      have hdl := dn_le zs b k
      obtain ⟨bk, off, rfl, hbk, hc⟩ := hr.at hlt
      have i1 : (0 : Int) ≤ (k : Int) := by omega
      have i2 : (k : Int) < (zs.length : Int) := by omega
      rcases Nat.mod_two_eq_zero_or_one (k / 2 ^ b) with hd | hd
      · have ho := other (k := k) h4 hb (by have := HL.out; omega) hd
        rw [hd] at HDG
        obtain ⟨N, hN⟩ : ∃ N : Nat, N = 2 ^ b := ⟨_, rfl⟩
        have hN2 : (2 : Int) ^ b = (N : Int) := by rw [hN]; simp
        have HK := Lib.hid (show kd zs b k = zs.getD (k + N) 0 - zs.getD k 0 by unfold kd; rw [if_neg (by omega), hN])
        rw [← hN] at ho
        clear hN hd
        have hlt2 : k + N < zs.length := by have := HL.out; omega
        have hor : Go.bits BinOp.or IntKind.i64 (k : Int) (N : Int) = ((k + N : Nat) : Int) := by rw [or16 (by omega) (by omega), ho.2.1]
        have hx := HA.out k hlt
        have hy := HA.out (k + N) hlt2
        obtain ⟨bk2, off2, e2, hbk2, hc2⟩ := hr.at hlt2
        cases e2
        obtain ⟨j, hj⟩ : ∃ j : Nat, j = k + N := ⟨_, rfl⟩
        rw [← hj] at hor hc2 hlt2 hy HK
        have i3 : (0 : Int) ≤ (j : Int) := by omega
        have i4 : (j : Int) < (zs.length : Int) := by omega
        have hN8 : N ≤ 8 := ho.2.2
        clear ho hj
        generalize zs.getD k 0 = x at *
        generalize zs.getD j 0 = y at *
        have HU := Lib.hid (fun h => up_hit (zs := zs) (b := b) (k := k) h)
        have HU' := Lib.hid (fun h => up_miss (zs := zs) (b := b) (k := k) h)
        have HD := Lib.hid (fun h => dn_hit (zs := zs) (b := b) (k := k) h)
        have HD' := Lib.hid (fun h => dn_miss (zs := zs) (b := b) (k := k) h)
        rw [HK.out] at HU HU' HD HD'
        clear HK
        generalize upTo zs b k = U at *
        generalize dnTo zs b k = D at *
        rcases hx with rfl | rfl
        all_goals (
          rcases hy with rfl | rfl
          all_goals (
            go_wp2_with fail
            refine HDG.out.mono ?_
            rintro e w' ⟨rfl, rfl⟩
            go_wp2_with fail
            go_round
            case rel => exact ⟨k + 1, by omega, by go_num, by (first | rw [HU.out (by decide)] | rw [HU'.out (by decide)]) <;> go_num, by (first | rw [HD.out (by decide)] | rw [HD'.out (by decide)]) <;> go_num⟩
            case measure => simp [intOf]; omega))
      · have HU' := Lib.hid (up_miss (zs := zs) (b := b) (k := k) (by unfold kd; rw [if_pos hd]; decide))
        have HD' := Lib.hid (dn_miss (zs := zs) (b := b) (k := k) (by unfold kd; rw [if_pos hd]; decide))
        rw [hd] at HDG
        clear hd
        generalize zs.getD k 0 = x at *
        generalize upTo zs b k = U at *
        generalize dnTo zs b k = D at *
        go_wp2_with fail
        refine HDG.out.mono ?_
        rintro e w' ⟨rfl, rfl⟩
        go_wp2_with fail
        go_round
        case rel => exact ⟨k + 1, by omega, by go_num, by rw [HU'.out], by rw [HD'.out]⟩
        case measure => simp [intOf]; omega
    · obtain rfl : k = zs.length := by omega
      go_wp2_with fail
      go_ret2
      exact ⟨rfl, rfl⟩
end Go.Proofs.Ytcklehfcpengoaa.moves5
