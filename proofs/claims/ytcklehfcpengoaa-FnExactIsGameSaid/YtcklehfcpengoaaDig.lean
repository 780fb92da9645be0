/- The walk of the program's binary digit of a place. -/
import Derived.Test.YtcklehfcpengoaaBits
import Derived.Test.YtcklehfcpengoaaMk
namespace Go.Proofs.Ytcklehfcpengoaa.dig
open Go.RowKit own pp nums bitw
set_option linter.unusedVariables false
set_option linter.unusedSimpArgs false

theorem or_at : ∀ p q : Fin 16, Go.bits BinOp.or IntKind.i64 ((p.val : Nat) : Int) ((q.val : Nat) : Int) = ((p.val ||| q.val : Nat) : Int) := by decide +kernel
theorem or16 {p q : Nat} (hp : p < 16) (hq : q < 16) : Go.bits BinOp.or IntKind.i64 (p : Int) (q : Int) = ((p ||| q : Nat) : Int) := or_at ⟨p, hp⟩ ⟨q, hq⟩
theorem dig_any (k i : Nat) (w : World) (hk : k < 16) (hi : i ≤ 8) :
    Calls Try.prog 98 #[.int .i64 k, .int .i64 i] w (fun e w' => e = .returned (.int .i64 ((k / 2 ^ i % 2 : Nat) : Int)) ∧ w' = w) := by
  have hbit := bit_at k i hk
  generalize k / 2 ^ i % 2 = d at *
  go_enter Try.func98, Try.ntmps98
  go_wp2_with fail
  go_ret
  exact ⟨rfl, rfl⟩
end Go.Proofs.Ytcklehfcpengoaa.dig
