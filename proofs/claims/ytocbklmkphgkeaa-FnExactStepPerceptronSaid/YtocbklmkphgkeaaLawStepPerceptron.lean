/- The law FnExactStepPerceptron: its walk, from the walks of the model's and the program's function. -/
import Derived.Test.YtocbklmkphgkeaaFnExactStepPerceptronW
import Derived.Test.YtocbklmkphgkeaaStepPerc
import Derived.Test.YtocbklmkphgkeaaGrid
namespace Go.Proofs.Ytocbklmkphgkeaa.fnExactStepPerceptronl
open Go.RowKit own pp
set_option linter.unusedVariables false

theorem law (a0 : Option Addr) (zs0 : List Int) (c0 : Nat) (b0 : Int) (a1 : Option Addr) (zs1 : List Int) (c1 : Nat) (n2 : Int) (w : World) (hr0 : ints.Reads .i64 w a0 zs0) (hf0 : ∀ z ∈ zs0, grid.Fits z) (hl0 : zs0.length ≤ maxLen) (hb0 : grid.Fits b0) (hr1 : ints.Reads .i64 w a1 zs1) (hf1 : ∀ i, i < zs1.length → -9223372036854775808 ≤ zs1.getD i 0 ∧ zs1.getD i 0 ≤ 9223372036854775807) (hl1 : zs1.length ≤ maxLen) (hn2 : (Lit.int .i64 n2).wf = true) :
    Calls Try.prog 8 #[.agg #[.slice a0 zs0.length c0, .int .i64 b0], .slice a1 zs1.length c1, .int .i64 n2] w fun e w' => e = .returned (.bool true) ∧ Below w.heap.size w w' := by
  unfold maxLen at hl0 hl1 
  by_cases hs : zs1.length ≤ 1048576 ∧ (zs0.length : Int) ≤ 1048576
  · obtain ⟨hs0, hs1⟩ := hs
    cases hk : step.stB zs0 b0 zs1 n2
    · exact fnExactStepPerceptronw.law_small a0 zs0 c0 b0 a1 zs1 c1 n2 [] 0 false false w hr0 hr1 hs0 hs1 (by simp) (Lib.hid fun _ _ _ _ _ h k => stepperc.spec_no _ _ _ _ _ _ _ _ _ h k (by omega) (by omega) hk) (Lib.hid fun _ _ _ _ _ h k => stepperc.impl_no _ _ _ _ _ _ _ _ _ h k (by omega) (by omega) hk)
    · exact fnExactStepPerceptronw.law_small a0 zs0 c0 b0 a1 zs1 c1 n2 (step.stW zs0 b0 zs1 n2) (step.stV zs0 b0 zs1 n2) (decide (pp.side zs0 b0 zs1 ≠ n2)) true w hr0 hr1 hs0 hs1 (by rw [step.stW_length]; omega) (Lib.hid fun _ _ _ _ _ h k => stepperc.spec_yes _ _ _ _ _ _ _ _ _ h k (by omega) (by omega) hk) (Lib.hid fun _ _ _ _ _ h k => stepperc.impl_yes _ _ _ _ _ _ _ _ _ h k (by omega) (by omega) hk)
  · exact fnExactStepPerceptronw.law_big a0 zs0 c0 b0 a1 zs1 c1 n2 w hr0 hr1 hl0 hl1 hs
end Go.Proofs.Ytocbklmkphgkeaa.fnExactStepPerceptronl
