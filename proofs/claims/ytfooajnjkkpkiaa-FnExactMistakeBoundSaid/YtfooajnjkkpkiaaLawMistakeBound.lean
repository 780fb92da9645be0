/- The law FnExactMistakeBound: its walk, from the walks of the model's and the program's function. -/
import Derived.Test.YtfooajnjkkpkiaaFnExactMistakeBoundW
import Derived.Test.YtfooajnjkkpkiaaMisBound
import Derived.Test.YtfooajnjkkpkiaaGrid
namespace Go.Proofs.Ytfooajnjkkpkiaa.fnExactMistakeBoundl
open Go.RowKit own pp
set_option linter.unusedVariables false

theorem law (a0 : Option Addr) (rows0 : List (List Int)) (c0 : Nat) (e0 : Option Addr) (zs0 : List Int) (d0 : Nat) (a1 : Option Addr) (zs1 : List Int) (c1 : Nat) (b1 : Int) (w : World) (hr0 : grid.Reads w a0 rows0) (hm0 : ∀ r ∈ rows0, r.length ≤ maxLen ∧ ∀ z ∈ r, grid.Fits z) (hl0 : rows0.length ≤ maxLen) (hq0 : ints.Reads .i64 w e0 zs0) (hf0 : ∀ z ∈ zs0, grid.Fits z) (hk0 : zs0.length ≤ maxLen) (hr1 : ints.Reads .i64 w a1 zs1) (hf1 : ∀ z ∈ zs1, grid.Fits z) (hl1 : zs1.length ≤ maxLen) (hb1 : grid.Fits b1) :
    Calls Try.prog 11 #[.agg #[.slice a0 rows0.length c0, .slice e0 zs0.length d0], .agg #[.slice a1 zs1.length c1, .int .i64 b1]] w fun e w' => e = .returned (.bool true) ∧ Below w.heap.size w w' := by
  unfold maxLen at hl0 hl1 hk0 hm0
  by_cases hs : (rows0.length : Int) + (grid.tot rows0 : Int) + (zs0.length : Int) + (zs1.length : Int) ≤ 1048576
  · have hs0 := hs
    cases hk : misbound.mbB rows0 zs0 zs1 b1
    · exact fnExactMistakeBoundw.law_small a0 rows0 c0 e0 zs0 d0 a1 zs1 c1 b1 0 false w hr0 hq0 hr1 hs0  (Lib.hid fun _ _ _ _ _ _ _ h k l => misbound.spec_no _ _ _ _ _ _ _ _ _ _ _ h k l (by omega) (by omega) (fun r hr => by have := grid.len_le_tot rows0 r hr; omega) (by omega) (Lib.hid hk)) (Lib.hid fun _ _ _ _ _ _ _ h k l => misbound.impl_no _ _ _ _ _ _ _ _ _ _ _ h k l (by omega) (by omega) (fun r hr => by have := grid.len_le_tot rows0 r hr; omega) (by omega) (Lib.hid hk))
    · exact fnExactMistakeBoundw.law_small a0 rows0 c0 e0 zs0 d0 a1 zs1 c1 b1 (misbound.bound rows0 zs0 zs1 b1) true w hr0 hq0 hr1 hs0  (Lib.hid fun _ _ _ _ _ _ _ h k l => misbound.spec_yes _ _ _ _ _ _ _ _ _ _ _ h k l (by omega) (by omega) (fun r hr => by have := grid.len_le_tot rows0 r hr; omega) (by omega) (Lib.hid hk)) (Lib.hid fun _ _ _ _ _ _ _ h k l => misbound.impl_yes _ _ _ _ _ _ _ _ _ _ _ h k l (by omega) (by omega) (fun r hr => by have := grid.len_le_tot rows0 r hr; omega) (by omega) (Lib.hid hk))
  · exact fnExactMistakeBoundw.law_big a0 rows0 c0 e0 zs0 d0 a1 zs1 c1 b1 w hr0 hq0 hr1 hl0 (fun s hs => (hm0 s hs).1) hk0 hl1 hs
end Go.Proofs.Ytfooajnjkkpkiaa.fnExactMistakeBoundl
