/- Several texts in one. -/
import Derived.BigQuiet
import Derived.Laws.StructEq
import Derived.Laws.Tables
import Derived.Test.YtoephhhofkmgjabSpG18
import Derived.Test.YtoephhhofkmgjabSpG6
namespace Go.Proofs.Ytoephhhofkmgjab.istrade
open Go.RowKit own pp nums range tab bitw dig pairw trade
set_option linter.unusedVariables false
set_option linter.unusedSimpArgs false

theorem arr_eq (x0 x1 x2 x3 y0 y1 y2 y3 : Int) (w : World) : (Op.equalIn 10000 125 (.agg #[.int .i64 x0, .int .i64 x1, .int .i64 x2, .int .i64 x3]) (.agg #[.int .i64 y0, .int .i64 y1, .int .i64 y2, .int .i64 y3])).run Try.prog w = .ok (decide ((x0 = y0 ∧ x1 = y1) ∧ (x2 = y2 ∧ x3 = y3))) w := by
  have u3 := Try.underlying3
  have a3 := Try.isAgg3
  have z3 := Try.sizeOf3
  rw [show (10000 : Nat) = 9999 + 1 from rfl, Op.equalIn]
  simp only [Sem.run_bind, run_underlying Try.underlying125, Result.andThen_ok]
  simp only [Std.Legacy.Range.forIn_eq_forIn_range', Std.Legacy.Range.size, Nat.sub_zero, Nat.add_sub_cancel, Nat.div_one, List.range'_succ, List.range'_zero, List.forIn_cons, List.forIn_nil]
  go_simp
  by_cases h0 : x0 = y0 <;> by_cases h1 : x1 = y1 <;> by_cases h2 : x2 = y2 <;> by_cases h3 : x3 = y3 <;> simp [h0, h1, h2, h3]
theorem eq4 (a b c d : Nat) : eqBits 4 a b c d = decide ((ds a b 0 = ds c d 0 ∧ ds a b 1 = ds c d 1) ∧ (ds a b 2 = ds c d 2 ∧ ds a b 3 = ds c d 3)) := by
  rw [Bool.eq_iff_iff, decide_eq_true_eq]
  constructor
  · intro h
    exact ⟨⟨eq_at h 0 (by omega), eq_at h 1 (by omega)⟩, eq_at h 2 (by omega), eq_at h 3 (by omega)⟩
  · rintro ⟨⟨h0, h1⟩, h2, h3⟩
    refine eq_all fun i hi => ?_
    have h4 : i = 0 ∨ i = 1 ∨ i = 2 ∨ i = 3 := by omega
    rcases h4 with rfl | rfl | rfl | rfl <;> assumption
theorem ones_iff {z0 z1 z2 z3 : Int} (h0 : z0 = 0 ∨ z0 = 1) (h1 : z1 = 0 ∨ z1 = 1) (h2 : z2 = 0 ∨ z2 = 1) (h3 : z3 = 0 ∨ z3 = 1) : decide ((z0 = 1 ∧ z1 = 1) ∧ (z2 = 0 ∧ z3 = 0)) = (decide (z0 + z1 = 2) && decide (z2 + z3 = 0)) := by
  rw [Bool.eq_iff_iff, Bool.and_eq_true, decide_eq_true_eq, decide_eq_true_eq, decide_eq_true_eq]
  omega
end Go.Proofs.Ytoephhhofkmgjab.istrade
