/- The law FnExactVapnikNumber: its walk, from the walks of the model's and the program's function. -/
import Derived.Test.YtncidajjeccbkaaFnExactVapnikNumberW
import Derived.Test.YtncidajjeccbkaaVapnik
import Derived.Test.YtncidajjeccbkaaGrid
namespace Go.Proofs.Ytncidajjeccbkaa.fnExactVapnikNumberl
open Go.RowKit own pp
set_option linter.unusedVariables false

theorem law (a0 : Option Addr) (rows0 : List (List Int)) (c0 : Nat) (w : World) (hr0 : grid.Reads w a0 rows0) (hm0 : ∀ r ∈ rows0, r.length ≤ maxLen ∧ ∀ z ∈ r, grid.Fits z) (hl0 : rows0.length ≤ maxLen) :
    Calls Try.prog 8 #[.slice a0 rows0.length c0] w fun e w' => e = .returned (.bool true) ∧ Below w.heap.size w w' := by
  unfold maxLen at hl0 hm0
  by_cases hs : (rows0.length : Int) + (grid.tot rows0 : Int) ≤ 1048576
  · have hs0 := hs
    cases hk : cls.classB rows0
    · exact fnExactVapnikNumberw.law_small a0 rows0 c0 0 false w hr0 hs0  (Lib.hid fun _ _ _ h => vapnik.spec_no _ _ _ _ h (by omega) (fun r hr => by have := grid.len_le_tot rows0 r hr; omega) hk) (Lib.hid fun _ _ _ h => vapnik.impl_no _ _ _ _ h (by omega) (fun r hr => by have := grid.len_le_tot rows0 r hr; omega) hk)
    · exact fnExactVapnikNumberw.law_small a0 rows0 c0 ((vapnik.vapN rows0 (rows0.getD 0 []).length : Nat) : Int) true w hr0 hs0  (Lib.hid fun _ _ _ h => vapnik.spec_yes _ _ _ _ h (by omega) (fun r hr => by have := grid.len_le_tot rows0 r hr; omega) hk) (Lib.hid fun _ _ _ h => vapnik.impl_yes _ _ _ _ h (by omega) (fun r hr => by have := grid.len_le_tot rows0 r hr; omega) hk)
  · exact fnExactVapnikNumberw.law_big a0 rows0 c0 w hr0 hl0 (fun s hs => (hm0 s hs).1) hs
end Go.Proofs.Ytncidajjeccbkaa.fnExactVapnikNumberl
