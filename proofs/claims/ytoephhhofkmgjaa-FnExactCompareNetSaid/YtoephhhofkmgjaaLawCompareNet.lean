/- The law FnExactCompareNet: its walk, from the walks of the model's and the program's function. -/
import Derived.Test.YtoephhhofkmgjaaFnExactCompareNetW
import Derived.Test.YtoephhhofkmgjaaCompN
import Derived.Test.YtoephhhofkmgjaaGrid
namespace Go.Proofs.Ytoephhhofkmgjaa.fnExactCompareNetl
open Go.RowKit own pp
set_option linter.unusedVariables false

theorem law (n0 : Int) (w : World) (hn0 : (Lit.int .i64 n0).wf = true) :
    Calls Try.prog 10 #[.int .i64 n0] w fun e w' => e = .returned (.bool true) ∧ Below w.heap.size w w' := by
  by_cases h1 : n0 = 1
  · subst h1
    exact fnExactCompareNetw.law_small 1 [[([1, -1], 0)]] 2 true w   (by simp [totL, planesfns.totJ, grid.tot]) (Lib.hid fun w => compn.spec_comp_1 w) (Lib.hid fun w => compn.impl_comp_1 w)
  by_cases h2 : n0 = 2
  · subst h2
    exact fnExactCompareNetw.law_small 2 [[([1, -1, 2, -2], 0)]] 4 true w   (by simp [totL, planesfns.totJ, grid.tot]) (Lib.hid fun w => compn.spec_comp_2 w) (Lib.hid fun w => compn.impl_comp_2 w)
  exact fnExactCompareNetw.law_small n0 [] 0 false w   (by simp [totL]) (Lib.hid fun w => compn.spec_comp_no n0 w (by by_cases h3 : 1 ≤ n0 <;> by_cases h4 : n0 ≤ 2 <;> simp [h3, h4] <;> omega)) (Lib.hid fun w => compn.impl_comp_no n0 w h1 h2)
end Go.Proofs.Ytoephhhofkmgjaa.fnExactCompareNetl
