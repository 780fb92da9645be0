/- The walks of the model's and the program's TurnLabels. -/
import Derived.Test.YtoephhhofkmgjabChanged
import Derived.Test.YtoephhhofkmgjabSamplesT
import Derived.Test.YtoephhhofkmgjabMinus
import Derived.Deep.RegionHeld3
import Derived.Deep.DrawnRows
namespace Go.Proofs.Ytoephhhofkmgjab.turnlabels
open Go.RowKit own pp nums samplesv samplest minus rowscopy changed samplefns
set_option linter.unusedVariables false
set_option linter.unusedSimpArgs false
attribute [local go_sem ↓] Go.wp_at_zero Go.wp_at_succ

theorem row_pos {rows : List (List Int)} {zs : List Int} (h : sampleB rows zs = true) (k : Nat) (hk : k < rows.length) : 0 < (rows.getD k []).length ∧ (rows.getD k []).length ≤ 4 := by
  have hr := all_at _ [] rows ((sampleB_iff _ _).1 h).2.2.2 k hk
  simp only [Bool.and_eq_true, decide_eq_true_eq] at hr
  have := (pointB_iff _).1 hr.1
  omega
theorem lab_big {rows : List (List Int)} {zs : List Int} (h : sampleB rows zs = true) : numsB 1000 zs = true := all_true _ 0 _ fun k hk => by
  have := (labelB_iff _).1 (all_at _ 0 zs ((sampleB_iff _ _).1 h).2.2.1 k hk)
  rw [inB_iff]; omega
end Go.Proofs.Ytoephhhofkmgjab.turnlabels
