/- Numbers of ones among the digits of a number: the library's, the model's; factorials: both. -/
import Derived.Test.YtobdapalllaceaaOutc
import Derived.BigQuiet
namespace Go.Proofs.Ytobdapalllaceaa.pop
open Go.RowKit own pp nums bitn
set_option linter.unusedVariables false
set_option linter.unusedSimpArgs false

/-- The number of ones of the digits. -/
def pcF : Nat → Nat → Nat
  | 0, _ => 0
  | f + 1, k => k % 2 + pcF f (k / 2)
def pc (k : Nat) : Nat := pcF 8 k
def f1 (x : Int) : Int := IntKind.u64.wrap (bits .and .u64 (x / 2) 6148914691236517205 + bits .and .u64 x 6148914691236517205)
def f2 (x : Int) : Int := IntKind.u64.wrap (bits .and .u64 (x / 4) 3689348814741910323 + bits .and .u64 x 3689348814741910323)
def f3 (x : Int) : Int := bits .and .u64 (IntKind.u64.wrap (x / 16 + x)) 1085102592571150095
def f4 (x : Int) : Int := IntKind.u64.wrap (x + x / 256)
def f5 (x : Int) : Int := IntKind.u64.wrap (x + x / 65536)
def f6 (x : Int) : Int := IntKind.u64.wrap (x + x / 4294967296)
def f7 (x : Int) : Int := bits .and .i64 (wrap64 x) 127
theorem pc_tab : ∀ k : Fin 256, f7 (f6 (f5 (f4 (f3 (f2 (f1 ((k.val : Nat) : Int))))))) = ((pc k.val : Nat) : Int) := by decide +kernel
set_option maxRecDepth 100000 in
set_option maxHeartbeats 4000000 in
theorem ones64 (k : Nat) (w : World) (hk : k < 256) : Calls Try.prog 180 #[.int .u64 (k : Int)] w (fun e w' => e = .returned (.int .i64 (pc k : Nat)) ∧ w' = w) := by
  go_enter Try.func180, Try.ntmps180
  go_wp2_with fail
  go_ret
  have h := pc_tab ⟨k, hk⟩
  unfold f7 f6 f5 f4 f3 f2 f1 at h
  exact ⟨congrArg (fun x => Ending.returned (.int .i64 x)) h, rfl⟩
set_option maxRecDepth 100000 in
set_option maxHeartbeats 1000000 in
theorem ones_any (k : Nat) (w : World) (hk : k < 256) : Calls Try.prog 140 #[.int .u64 (k : Int)] w (fun e w' => e = .returned (.int .i64 (pc k : Nat)) ∧ w' = w) := by
  have HC := Lib.hid (ones64 k w hk)
  go_enter Try.func140, Try.ntmps140
  go_wp2_with fail
  refine HC.out.mono ?_
  rintro e w' ⟨rfl, rfl⟩
  go_wp2_with fail
  go_ret
  exact ⟨rfl, rfl⟩
theorem pc_step : ∀ q : Fin 256, pc q.val = q.val % 2 + pc (q.val / 2) := by decide +kernel
theorem pc_le : ∀ q : Fin 256, pc q.val ≤ 8 := by decide +kernel
theorem pc_bd : ∀ n : Fin 9, ∀ q : Fin 256, q.val < 2 ^ n.val → pc q.val ≤ n.val := by decide +kernel
theorem pc_pos : ∀ i : Fin 8, ∀ q : Fin 256, dg q.val i.val = 1 → 1 ≤ pc q.val := by decide +kernel
/-- The product of the numbers up to n. -/
def fac : Nat → Nat
  | 0 => 1
  | n + 1 => (n + 1) * fac n
theorem fac_succ (n : Nat) : fac (n + 1) = (n + 1) * fac n := rfl
theorem fac8 : ∀ n : Fin 9, 1 ≤ fac n.val ∧ fac n.val ≤ 40320 := by decide +kernel
theorem fac_le {n : Nat} (h : n ≤ 8) : 1 ≤ fac n ∧ fac n ≤ 40320 := fac8 ⟨n, by omega⟩
theorem fac_grow {k n : Nat} (h : n ≤ 8) (hk : k < n) : (fac k : Int) * ((k : Int) + 1) = (fac (k + 1) : Nat) ∧ (fac (k + 1) : Nat) ≤ 40320 := by
  refine ⟨?_, (fac_le (n := k + 1) (by omega)).2⟩
  rw [fac_succ, Int.natCast_mul, Int.mul_comm]
  rfl
end Go.Proofs.Ytobdapalllaceaa.pop
