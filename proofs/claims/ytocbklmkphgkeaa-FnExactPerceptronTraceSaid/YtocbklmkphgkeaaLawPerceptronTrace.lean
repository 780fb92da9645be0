/- The law FnExactPerceptronTrace: its walk, from the walks of the model's and the program's function. -/
import Derived.Test.YtocbklmkphgkeaaFnExactPerceptronTraceW
import Derived.Test.YtocbklmkphgkeaaRunS
import Derived.Test.YtocbklmkphgkeaaWalkT
import Derived.Test.YtocbklmkphgkeaaGrid
namespace Go.Proofs.Ytocbklmkphgkeaa.fnExactPerceptronTracel
open Go.RowKit own pp
set_option linter.unusedVariables false

theorem law (a0 : Option Addr) (rows0 : List (List Int)) (c0 : Nat) (e0 : Option Addr) (zs0 : List Int) (d0 : Nat) (n1 : Int) (w : World) (hr0 : grid.Reads w a0 rows0) (hm0 : ∀ r ∈ rows0, r.length ≤ maxLen ∧ ∀ z ∈ r, grid.Fits z) (hl0 : rows0.length ≤ maxLen) (hq0 : ints.Reads .i64 w e0 zs0) (hf0 : ∀ z ∈ zs0, grid.Fits z) (hk0 : zs0.length ≤ maxLen) (hn1 : (Lit.int .i64 n1).wf = true) :
    Calls Try.prog 10 #[.agg #[.slice a0 rows0.length c0, .slice e0 zs0.length d0], .int .i64 n1] w fun e w' => e = .returned (.bool true) ∧ Below w.heap.size w w' := by
  unfold maxLen at hl0 hk0 hm0
  by_cases hs : (rows0.length : Int) + (grid.tot rows0 : Int) + (zs0.length : Int) ≤ 1048576
  · have hs0 := hs
    cases hk : made.runB rows0 zs0 n1
    · exact fnExactPerceptronTracew.law_small a0 rows0 c0 e0 zs0 d0 n1 [] false w hr0 hq0 hs0 (by simp) (Lib.hid fun _ _ _ _ _ h k => made.spec_trace_no _ _ _ _ _ _ _ _ h k (by omega) (by omega) (fun r hr => by have := grid.len_le_tot rows0 r hr; omega) (Lib.hid hk)) (Lib.hid fun _ _ _ _ _ h k => walkt.trace_no _ _ _ _ _ _ _ _ h k (by omega) (by omega) (fun r hr => by have := grid.len_le_tot rows0 r hr; omega) hk)
    · exact fnExactPerceptronTracew.law_small a0 rows0 c0 e0 zs0 d0 n1 (runp.fin rows0 zs0 n1).tr true w hr0 hq0 hs0 (by have := (dualc.fin_tr hk).1; omega) (Lib.hid fun _ _ _ _ _ h k => made.spec_trace_yes _ _ _ _ _ _ _ _ h k (by omega) (by omega) (fun r hr => by have := grid.len_le_tot rows0 r hr; omega) (Lib.hid hk)) (Lib.hid fun _ _ _ _ _ h k => walkt.trace_yes _ _ _ _ _ _ _ _ h k (by omega) (by omega) (fun r hr => by have := grid.len_le_tot rows0 r hr; omega) hk)
  · exact fnExactPerceptronTracew.law_big a0 rows0 c0 e0 zs0 d0 n1 w hr0 hq0 hl0 (fun s hs => (hm0 s hs).1) hk0 hs
end Go.Proofs.Ytocbklmkphgkeaa.fnExactPerceptronTracel
