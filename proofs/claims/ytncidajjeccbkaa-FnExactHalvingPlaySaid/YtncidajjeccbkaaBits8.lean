/- The walks of the program's bits of a number and of the products of weights and bits, at up to 8 bits. -/
import Derived.Test.YtncidajjeccbkaaBits
import Derived.Test.YtncidajjeccbkaaDots
import Derived.Test.YtncidajjeccbkaaMk
import Derived.Test.YtncidajjeccbkaaBitN
namespace Go.Proofs.Ytncidajjeccbkaa.bits8
open Go.RowKit own pp nums bitw mk
set_option linter.unusedVariables false
set_option linter.unusedSimpArgs false

set_option maxRecDepth 100000 in
set_option maxHeartbeats 1000000 in
theorem impl_bits (n m : Nat) (w : World) (hn : n ≤ 8) (hm : m < 256) :
    Calls Try.prog 90 #[.int .i64 n, .int .i64 m] w (intfns.Made (bitsTo m n) w) := by
  obtain ⟨i0, hi, hz0, hz1, hz2⟩ := info_parts mk.infoInt
  go_enter Try.func90, Try.ntmps90
  go_wp2_with (refine wpList_make_full _ rfl _ _ 30 rfl w.heap.size 3 i0 (.int .i64 0) 1 Try.underlying30 hi hz0 hz1 .i64 .i64 _ _ n rfl rfl rfl rfl (by rw [hz2]; omega) (by unfold maxLen; omega) (Nat.le_refl _) ?_; intro w1 hown1 hgrow1; refine Hid.out ?_)
  refine Lib.hid ?_
  have hb1 : Below w.heap.size w w1 := (Below.refl _ _).grown hgrow1 (Nat.le_refl _) (by simp)
  rw [show (Value.int .i64 0).cells = #[Value.int .i64 0] from rfl, Nat.mul_one, toList_madeCells_one, ← filled_zero m] at hown1
  go_wp2_with fail
  go_loopw [11] (fun i wr => ∃ k : Nat, k ≤ n ∧ i = .int .i64 k ∧ wr.ownsRow w.heap.size 3 1 (.slice (some ⟨w.heap.size, 0, none⟩) n n) n (filled m n k) ∧ Below w.heap.size w wr) (fun i _ => n - (intOf i).toNat)
  case atStart => exact ⟨0, Nat.zero_le _, rfl, hown1, hb1⟩
  case round =>
    obtain ⟨k, hk, rfl, hown, hbel⟩ := hrel
    clear hown1 hgrow1 hb1
    have HB := Lib.hid hbel
    clear hbel
    by_cases hlt : k < n
    · have hcell : wr.cell? ⟨w.heap.size, k, none⟩ = some (.int .i64 0) := by rw [hown.cellAt k (by omega), filled_at m n k hlt]
      have hfro := hown.frozenAt k
      have hst := hown.stored k (.int .i64 ((m / 2 ^ k % 2 : Nat) : Int))
      rw [filled_succ m n k hlt] at hst
      have HS := Lib.hid hst
      have hbit : Go.bits .and .i64 ((m : Int) / 2 ^ k) 1 = ((m / 2 ^ k % 2 : Nat) : Int) := bitn.dg_at m k (by omega)
      have hk4 : k < 8 := by omega
      clear hst hown
      generalize ((m / 2 ^ k % 2 : Nat) : Int) = x at *
      go_wp2_with fail
      clear hbit
      go_roundw
      case rel => exact ⟨k + 1, by omega, by go_num, HS.out.1, HB.out.setCell (Nat.le_refl _) _⟩
      case measure => simp [intOf]; omega
    · obtain rfl : k = n := by omega
      rw [filled_all] at hown
      have HO := Lib.hid hown
      clear hown
      go_wp2_with fail
      go_ret
      exact ⟨_, rfl, OwnI.of (by rw [bitsTo_length]; exact HO.out), HB.out⟩
/-- The products of weights and the digits of all numbers. -/
def prods (ws : List Int) : List Int := mk.mk (fun k => pp.dot ws (bitsTo k ws.length)) (2 ^ ws.length)
theorem prods_length (ws : List Int) : (prods ws).length = 2 ^ ws.length := mk_length _ _
theorem prods_getD (ws : List Int) (k : Nat) (h : k < 2 ^ ws.length) : (prods ws).getD k 0 = pp.dot ws (bitsTo k ws.length) := mk_getD _ _ _ h
theorem pow8 {n : Nat} (h : n ≤ 8) : 1 ≤ 2 ^ n ∧ 2 ^ n ≤ 256 := by
  have h2 : n = 0 ∨ n = 1 ∨ n = 2 ∨ n = 3 ∨ n = 4 ∨ n = 5 ∨ n = 6 ∨ n = 7 ∨ n = 8 := by omega
  rcases h2 with e | e | e | e | e | e | e | e | e <;> rw [e] <;> decide
end Go.Proofs.Ytncidajjeccbkaa.bits8
