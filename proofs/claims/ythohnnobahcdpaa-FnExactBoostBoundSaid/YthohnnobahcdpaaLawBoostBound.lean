/- The law FnExactBoostBound: its walk, from the walks of the model's and the program's function. -/
import Derived.Test.YthohnnobahcdpaaFnExactBoostBoundW
import Derived.Test.YthohnnobahcdpaaBoundB
import Derived.Test.YthohnnobahcdpaaGrid
namespace Go.Proofs.Ythohnnobahcdpaa.fnExactBoostBoundl
open Go.RowKit own pp
set_option linter.unusedVariables false

theorem law (a0 : Option Addr) (rows0 : List (List Int)) (c0 : Nat) (e0 : Option Addr) (zs0 : List Int) (d0 : Nat) (n1 : Int) (w : World) (hr0 : grid.Reads w a0 rows0) (hm0 : ∀ r ∈ rows0, r.length ≤ maxLen ∧ ∀ z ∈ r, grid.Fits z) (hl0 : rows0.length ≤ maxLen) (hq0 : ints.Reads .i64 w e0 zs0) (hf0 : ∀ z ∈ zs0, grid.Fits z) (hk0 : zs0.length ≤ maxLen) (hn1 : (Lit.int .i64 n1).wf = true) :
    Calls Try.prog 8 #[.agg #[.slice a0 rows0.length c0, .slice e0 zs0.length d0], .int .i64 n1] w fun e w' => e = .returned (.bool true) ∧ Below w.heap.size w w' := by
  unfold maxLen at hl0 hk0 hm0
  by_cases hs : (rows0.length : Int) + (grid.tot rows0 : Int) + (zs0.length : Int) ≤ 1048576
  · have hs0 := hs
    cases hk : boundb.bkB rows0 zs0 1 n1
    · exact fnExactBoostBoundw.law_small a0 rows0 c0 e0 zs0 d0 n1 0 false w hr0 hq0 hs0  (Lib.hid fun _ _ _ _ w h hz => boundb.spec_bound_no _ rows0 _ _ zs0 _ n1 w h hz (by omega) (by omega) (fun r hr => by have := grid.len_le_tot rows0 r hr; omega) hk) (Lib.hid fun _ _ _ _ w h hz => boundb.impl_bound_no _ rows0 _ _ zs0 _ n1 w h hz (by omega) (by omega) (fun r hr => by have := grid.len_le_tot rows0 r hr; omega) hk)
    · exact fnExactBoostBoundw.law_small a0 rows0 c0 e0 zs0 d0 n1 (boundb.bndV rows0 zs0 n1.toNat) true w hr0 hq0 hs0  (Lib.hid fun _ _ _ _ w h hz => boundb.spec_bound_yes _ rows0 _ _ zs0 _ n1 w h hz (by omega) (by omega) (fun r hr => by have := grid.len_le_tot rows0 r hr; omega) hk) (Lib.hid fun _ _ _ _ w h hz => boundb.impl_bound_yes _ rows0 _ _ zs0 _ n1 w h hz (by omega) (by omega) (fun r hr => by have := grid.len_le_tot rows0 r hr; omega) hk)
  · exact fnExactBoostBoundw.law_big a0 rows0 c0 e0 zs0 d0 n1 w hr0 hq0 hl0 (fun s hs => (hm0 s hs).1) hk0 hs
end Go.Proofs.Ythohnnobahcdpaa.fnExactBoostBoundl
