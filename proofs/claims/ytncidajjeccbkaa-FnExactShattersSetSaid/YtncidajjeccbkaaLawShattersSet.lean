/- The law FnExactShattersSet: its walk, from the walks of the model's and the program's function. -/
import Derived.Test.YtncidajjeccbkaaFnExactShattersSetW
import Derived.Test.YtncidajjeccbkaaShat
import Derived.Test.YtncidajjeccbkaaGrid
namespace Go.Proofs.Ytncidajjeccbkaa.fnExactShattersSetl
open Go.RowKit own pp
set_option linter.unusedVariables false

theorem law (a0 : Option Addr) (rows0 : List (List Int)) (c0 : Nat) (a1 : Option Addr) (zs1 : List Int) (c1 : Nat) (w : World) (hr0 : grid.Reads w a0 rows0) (hm0 : ∀ r ∈ rows0, r.length ≤ maxLen ∧ ∀ z ∈ r, grid.Fits z) (hl0 : rows0.length ≤ maxLen) (hr1 : ints.Reads .i64 w a1 zs1) (hf1 : ∀ i, i < zs1.length → -9223372036854775808 ≤ zs1.getD i 0 ∧ zs1.getD i 0 ≤ 9223372036854775807) (hl1 : zs1.length ≤ maxLen) :
    Calls Try.prog 6 #[.slice a0 rows0.length c0, .slice a1 zs1.length c1] w fun e w' => e = .returned (.bool true) ∧ Below w.heap.size w w' := by
  unfold maxLen at hl0 hl1 hm0
  by_cases hs : zs1.length ≤ 1048576 ∧ (rows0.length : Int) + (grid.tot rows0 : Int) ≤ 1048576
  · obtain ⟨hs0, hs1⟩ := hs
    cases hk : classt.setB rows0 zs1
    · exact fnExactShattersSetw.law_small a0 rows0 c0 a1 zs1 c1 false false w hr0 hr1 hs0 hs1  (Lib.hid fun _ _ _ _ _ h k => shatw.spec_no _ _ _ _ _ _ _ h k (by omega) (fun r hr => by have := grid.len_le_tot rows0 r hr; omega) (by omega) hk) (Lib.hid fun _ _ _ _ _ h k => shatw.impl_no _ _ _ _ _ _ _ h k (by omega) (fun r hr => by have := grid.len_le_tot rows0 r hr; omega) (by omega) hk)
    · exact fnExactShattersSetw.law_small a0 rows0 c0 a1 zs1 c1 (tracep.shatB rows0 zs1) true w hr0 hr1 hs0 hs1  (Lib.hid fun _ _ _ _ _ h k => shatw.spec_yes _ _ _ _ _ _ _ h k (by omega) (fun r hr => by have := grid.len_le_tot rows0 r hr; omega) (by omega) hk) (Lib.hid fun _ _ _ _ _ h k => shatw.impl_yes _ _ _ _ _ _ _ h k (by omega) (fun r hr => by have := grid.len_le_tot rows0 r hr; omega) (by omega) hk)
  · exact fnExactShattersSetw.law_big a0 rows0 c0 a1 zs1 c1 w hr0 hr1 hl0 (fun s hs => (hm0 s hs).1) hl1 hs
end Go.Proofs.Ytncidajjeccbkaa.fnExactShattersSetl
