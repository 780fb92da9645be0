/- The law FnExactLeftOutMistakes: its walk, from the walks of the model's and the program's function. -/
import Derived.Test.YtkbcofgigfnfaaaFnExactLeftOutMistakesW
import Derived.Test.YtkbcofgigfnfaaaLeftO
import Derived.Test.YtkbcofgigfnfaaaGrid
namespace Go.Proofs.Ytkbcofgigfnfaaa.fnExactLeftOutMistakesl
open Go.RowKit own pp
set_option linter.unusedVariables false

theorem law (a0 : Option Addr) (rows0 : List (List Int)) (c0 : Nat) (e0 : Option Addr) (zs0 : List Int) (d0 : Nat) (n1 : Int) (w : World) (hr0 : grid.Reads w a0 rows0) (hm0 : ∀ r ∈ rows0, r.length ≤ maxLen ∧ ∀ z ∈ r, grid.Fits z) (hl0 : rows0.length ≤ maxLen) (hq0 : ints.Reads .i64 w e0 zs0) (hf0 : ∀ z ∈ zs0, grid.Fits z) (hk0 : zs0.length ≤ maxLen) (hn1 : (Lit.int .i64 n1).wf = true) :
    Calls Try.prog 5 #[.agg #[.slice a0 rows0.length c0, .slice e0 zs0.length d0], .int .i64 n1] w fun e w' => e = .returned (.bool true) ∧ Below w.heap.size w w' := by
  unfold maxLen at hl0 hk0 hm0
  by_cases hs : (rows0.length : Int) + (grid.tot rows0 : Int) + (zs0.length : Int) ≤ 1048576
  · have hs0 := hs
    cases hk : lefto.loB rows0 zs0 n1
    · exact fnExactLeftOutMistakesw.law_small a0 rows0 c0 e0 zs0 d0 n1 [] false w hr0 hq0 hs0 (by simp) (Lib.hid fun _ _ _ _ w hr hz => lefto.spec_lo_no _ rows0 _ _ zs0 _ n1 w hr hz (by omega) (by omega) (fun r hr => by have := grid.len_le_tot rows0 r hr; omega) hk) (Lib.hid fun _ _ _ _ w hr hz => lefto.impl_lo_no _ rows0 _ _ zs0 _ n1 w hr hz (by omega) (by omega) (fun r hr => by have := grid.len_le_tot rows0 r hr; omega) hk)
    have h14 := (lefto.loB_iff _ _ _).1 hk
    have h16 := ((sampleB_iff _ _).1 h14.1).1
    obtain ⟨m, rfl⟩ : ∃ m : Nat, n1 = (m : Int) := ⟨n1.toNat, by omega⟩
    have hlr := pwh.placesTo_length (lefto.outB rows0 zs0 m) rows0.length
    exact fnExactLeftOutMistakesw.law_small a0 rows0 c0 e0 zs0 d0 (m : Int) (pwh.placesTo (lefto.outB rows0 zs0 m) rows0.length) true w hr0 hq0 hs0 (by omega) (Lib.hid fun _ _ _ _ w hr hz => lefto.spec_lo_yes _ rows0 _ _ zs0 _ m w hr hz (by omega) (by omega) (fun r hr => by have := grid.len_le_tot rows0 r hr; omega) hk) (Lib.hid fun _ _ _ _ w hr hz => lefto.impl_lo_yes _ rows0 _ _ zs0 _ m w hr hz (by omega) (by omega) (fun r hr => by have := grid.len_le_tot rows0 r hr; omega) hk)
  · exact fnExactLeftOutMistakesw.law_big a0 rows0 c0 e0 zs0 d0 n1 w hr0 hq0 hl0 (fun s hs => (hm0 s hs).1) hk0 hs
end Go.Proofs.Ytkbcofgigfnfaaa.fnExactLeftOutMistakesl
