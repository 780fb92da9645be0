/- The law FnExactRunWinnow: its walk, from the walks of the model's and the program's function. -/
import Derived.Test.YtocbklmkphgkeaaFnExactRunWinnowW
import Derived.Test.YtocbklmkphgkeaaGame
import Derived.Test.YtocbklmkphgkeaaGrid
namespace Go.Proofs.Ytocbklmkphgkeaa.fnExactRunWinnowl
open Go.RowKit own pp
set_option linter.unusedVariables false

theorem law (n0 : Int) (a1 : Option Addr) (rows1 : List (List Int)) (c1 : Nat) (a2 : Option Addr) (zs2 : List Int) (c2 : Nat) (w : World) (hn0 : (Lit.int .i64 n0).wf = true) (hr1 : grid.Reads w a1 rows1) (hm1 : ∀ r ∈ rows1, r.length ≤ maxLen ∧ ∀ z ∈ r, grid.Fits z) (hl1 : rows1.length ≤ maxLen) (hr2 : ints.Reads .i64 w a2 zs2) (hf2 : ∀ i, i < zs2.length → -9223372036854775808 ≤ zs2.getD i 0 ∧ zs2.getD i 0 ≤ 9223372036854775807) (hl2 : zs2.length ≤ maxLen) :
    Calls Try.prog 14 #[.int .i64 n0, .slice a1 rows1.length c1, .slice a2 zs2.length c2] w fun e w' => e = .returned (.bool true) ∧ Below w.heap.size w w' := by
  unfold maxLen at hl1 hl2 hm1
  by_cases hs : zs2.length ≤ 1048576 ∧ (rows1.length : Int) + (grid.tot rows1 : Int) ≤ 1048576
  · obtain ⟨hs0, hs1⟩ := hs
    cases hk : game.rwB n0 rows1 zs2
    · exact fnExactRunWinnoww.law_small n0 a1 rows1 c1 a2 zs2 c2 [] 0 false w hr1 hr2 hs0 hs1 (by simp) (Lib.hid fun _ _ _ _ _ h k => game.spec_no _ _ _ _ _ _ _ _ h k (by omega) (fun r hr => by have := grid.len_le_tot rows1 r hr; omega) (by omega) hk) (Lib.hid fun _ _ _ _ _ h k => game.impl_no _ _ _ _ _ _ _ _ h k (by omega) (fun r hr => by have := grid.len_le_tot rows1 r hr; omega) (by omega) hk)
    · exact fnExactRunWinnoww.law_small n0 a1 rows1 c1 a2 zs2 c2 (game.gs rows1 zs2 n0.toNat rows1.length) (game.gw rows1 zs2 n0.toNat rows1.length) true w hr1 hr2 hs0 hs1 (by have := game.gs_ok hk rows1.length; omega) (Lib.hid fun _ _ _ _ _ h k => game.spec_full _ _ _ _ _ _ _ _ h k (by omega) (fun r hr => by have := grid.len_le_tot rows1 r hr; omega) (by omega) hk) (Lib.hid fun _ _ _ _ _ h k => game.impl_full _ _ _ _ _ _ _ _ h k (by omega) (fun r hr => by have := grid.len_le_tot rows1 r hr; omega) (by omega) hk)
  · exact fnExactRunWinnoww.law_big n0 a1 rows1 c1 a2 zs2 c2 w hr1 hr2 hl1 (fun s hs => (hm1 s hs).1) hl2 hs
end Go.Proofs.Ytocbklmkphgkeaa.fnExactRunWinnowl
