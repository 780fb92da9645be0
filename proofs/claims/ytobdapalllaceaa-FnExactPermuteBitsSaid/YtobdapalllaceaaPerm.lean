/- The walks of a table with its bits exchanged: the model's and the program's. -/
import Derived.Test.YtobdapalllaceaaTab
import Derived.Test.YtobdapalllaceaaFrom
import Derived.Test.YtobdapalllaceaaBits
import Derived.Test.YtobdapalllaceaaPermP
import Derived.Test.YtobdapalllaceaaDiff
import Derived.BigQuiet
import Derived.StillTailTactics
namespace Go.Proofs.Ytobdapalllaceaa.permw
open Go.RowKit own pp nums range tab fromw bitw has permp
set_option linter.unusedVariables false
set_option linter.unusedSimpArgs false

open mk (mk_length mk_succ mk_congr pow4)
theorem infoBool : (Try.prog.info? 4).map (fun i => (i.zero, i.size, i.bytes)) = some (some (.bool false), 1, 1) := by kernel_rfl
/-- The table with its bits exchanged. -/
def pe (zs to : List Int) (n k : Nat) : Int := zs.getD (srcS (nats to) k n) 0
def permT (zs to : List Int) (n : Nat) : List Int := mk.mk (pe zs to n) zs.length
theorem or_at : ∀ p q : Fin 16, Go.bits BinOp.or IntKind.i64 ((p.val : Nat) : Int) ((q.val : Nat) : Int) = ((p.val ||| q.val : Nat) : Int) := by decide +kernel
theorem or16 {p q : Nat} (hp : p < 16) (hq : q < 16) : Go.bits BinOp.or IntKind.i64 (p : Int) (q : Int) = ((p ||| q : Nat) : Int) := or_at ⟨p, hp⟩ ⟨q, hq⟩
/-- A step of the sum. -/
theorem src_step {n : Nat} (h4 : n ≤ 4) {to : List Int} (h : orderB n to = true) {k j : Nat} (hk : k < 2 ^ n) (hj : j < n) :
    ∃ s N d : Nat, to.getD j 0 = (s : Int) ∧ s ≤ 3 ∧ (2 : Int) ^ s = (N : Int) ∧ N ≤ 8 ∧ k / 2 ^ j % 2 = d ∧ (d = 0 ∨ d = 1) ∧ srcS (nats to) k (j + 1) = srcS (nats to) k j + d * N ∧ srcO (nats to) k (j + 1) = srcO (nats to) k j ||| d * N ∧ srcS (nats to) k (j + 1) < 16 ∧ srcO (nats to) k j < 16 ∧ s < n := by
  have hf := ok_fit h j (by rw [perm_len h]; exact hj)
  have h16 := (pow4 h4).2
  have h1 := src_ok h4 h hk (show j + 1 ≤ n by omega)
  have h2 := src_ok h4 h hk (show j ≤ n by omega)
  refine ⟨(to.getD j 0).toNat, 2 ^ (to.getD j 0).toNat, k / 2 ^ j % 2, by omega, by omega, by simp, ?_, rfl, by omega, ?_, ?_, by omega, by rw [h2.1]; omega, by omega⟩
  · exact Nat.le_trans (Nat.pow_le_pow_right (by omega) (show (to.getD j 0).toNat ≤ 3 by omega)) (by decide)
  · rw [srcS, nats_getD]
  · rw [srcO, nats_getD]
theorem dig_any (k i : Nat) (w : World) (hk : k < 16) (hi : i ≤ 8) :
    Calls Try.prog 67 #[.int .i64 k, .int .i64 i] w (fun e w' => e = .returned (.int .i64 ((k / 2 ^ i % 2 : Nat) : Int)) ∧ w' = w) := by
  have hbit := bit_at k i hk
  generalize k / 2 ^ i % 2 = d at *
  go_enter Try.func67, Try.ntmps67
  go_wp2_with fail
  go_ret
  exact ⟨rfl, rfl⟩
theorem order_len_w (n : Nat) (a' : Option Addr) (to : List Int) (c' : Nat) (w : World) (h4 : n ≤ 4) (hl : to.length ≠ n) :
    Calls Try.prog 64 #[.slice a' to.length c', .int .i64 n] w (RetB false w) := diffw.order_len_w n a' to c' w (by omega) hl
theorem order_any (n : Nat) (a' : Option Addr) (to : List Int) (c' : Nat) (w : World) (hq : ints.Reads .i64 w a' to) (h4 : n ≤ 4) (ok : Bool) (h : Hid (orderB n to = ok)) :
    Calls Try.prog 64 #[.slice a' to.length c', .int .i64 n] w (RetB ok w) := diffw.order_any n a' to c' w hq (by omega) ok h
set_option maxRecDepth 100000 in
set_option maxHeartbeats 4000000 in
theorem src_at (n k : Nat) (b0 : Nat) (a' : Option Addr) (to : List Int) (c' : Nat) (w : World) (hc0 : w.cell? ⟨b0, 0, none⟩ = some (.slice a' to.length c')) (hq : ints.Reads .i64 w a' to) (h4 : n ≤ 4) (h : orderB n to = true) (hk : k < 2 ^ n) :
    Calls Try.prog 66 #[.int .i64 k, .pointer (some ⟨b0, 0, none⟩)] w (fun e w' => e = .returned (.int .i64 ((srcS (nats to) k n : Nat) : Int)) ∧ ∃ m, w' = w.drewN m) := by
  have HH := Lib.hid h
  have hlen := perm_len h
  have HL := Lib.hid hlen
  have hk16 : k < 16 := Nat.lt_of_lt_of_le hk (pow4 h4).2
  have hn4 : to.length ≤ 4 := by omega
  clear h hlen
  go_enter Try.func66, Try.ntmps66
  go_wp2_with fail
  go_loopw [4, 9] (fun x i wq => ∃ (j : Nat), j ≤ to.length ∧ i = .int .i64 j ∧ x = .int .i64 ((srcO (nats to) k j : Nat) : Int) ∧ wq = w) (fun _ i _ => to.length - (intOf i).toNat)
  case atStart => exact ⟨0, Nat.zero_le _, rfl, rfl, rfl⟩
  case round =>
    obtain ⟨j, hj, rfl, rfl, rfl⟩ := hrel
    by_cases hjt : j < to.length
    · obtain ⟨s, N, d, hs, hs3, hN, hN8, hd, hd01, hS, hO, hS16, hO16, hsn⟩ := src_step h4 HH.out hk (show j < n by have := HL.out; omega)
      obtain ⟨b, off, rfl, hb, hc⟩ := hq.at hjt
      have HDG := Lib.hid (dig_any k j wr hk16 (by omega))
      rw [hd] at HDG
      rw [hs] at hc
      have i1 : (0 : Int) ≤ (j : Int) := by omega
      have i2 : (j : Int) < (to.length : Int) := by omega
      clear hs hd hS hS16
      rcases hd01 with rfl | rfl
      · have HXo := Lib.hid (show srcO (nats to) k j = srcO (nats to) k (j + 1) by rw [hO, Nat.zero_mul, Nat.or_zero])
        have hbit : Go.bits BinOp.or IntKind.i64 ((srcO (nats to) k j : Nat) : Int) 0 = ((srcO (nats to) k j : Nat) : Int) := by
          have := or16 (p := srcO (nats to) k j) (q := 0) hO16 (by omega)
          rwa [Nat.or_zero] at this
        clear hO
        generalize srcO (nats to) k j = x at *
        go_wp2_with fail
        refine HDG.out.mono ?_
        rintro e w' ⟨rfl, rfl⟩
        go_wp2_with fail
        go_roundw
        case rel => exact ⟨j + 1, by omega, by go_num, by rw [← HXo.out], by first | rfl | trivial⟩
        case measure => simp [intOf]; omega
      · have HXo := Lib.hid (show srcO (nats to) k j ||| N = srcO (nats to) k (j + 1) by rw [hO, Nat.one_mul])
        have hbit := or16 (p := srcO (nats to) k j) (q := N) hO16 (by omega)
        clear hO
        generalize srcO (nats to) k j = x at *
        go_wp2_with fail
        refine HDG.out.mono ?_
        rintro e w' ⟨rfl, rfl⟩
        go_wp2_with fail
        go_roundw
        case rel => exact ⟨j + 1, by omega, by go_num, by rw [← HXo.out], by first | rfl | trivial⟩
        case measure => simp [intOf]; omega
    · obtain rfl : j = to.length := by omega
      have HE := Lib.hid (show srcO (nats to) k to.length = srcS (nats to) k n by rw [HL.out]; exact (src_ok h4 HH.out hk (Nat.le_refl n)).1)
      go_wp2_with fail
      go_ret
      exact ⟨congrArg (fun z : Nat => Ending.returned (.int .i64 (z : Int))) HE.out, 0, rfl⟩
end Go.Proofs.Ytobdapalllaceaa.permw
