/- The law FnExactNearestPlaces: its walk, from the walks of the model's and the program's function. -/
import Derived.Test.YtkbcofgigfnfaaaFnExactNearestPlacesW
import Derived.Test.YtkbcofgigfnfaaaNearT
import Derived.Test.YtkbcofgigfnfaaaGrid
namespace Go.Proofs.Ytkbcofgigfnfaaa.fnExactNearestPlacesl
open Go.RowKit own pp
set_option linter.unusedVariables false

theorem law (a0 : Option Addr) (rows0 : List (List Int)) (c0 : Nat) (e0 : Option Addr) (zs0 : List Int) (d0 : Nat) (a1 : Option Addr) (zs1 : List Int) (c1 : Nat) (n2 : Int) (w : World) (hr0 : grid.Reads w a0 rows0) (hm0 : ∀ r ∈ rows0, r.length ≤ maxLen ∧ ∀ z ∈ r, grid.Fits z) (hl0 : rows0.length ≤ maxLen) (hq0 : ints.Reads .i64 w e0 zs0) (hf0 : ∀ z ∈ zs0, grid.Fits z) (hk0 : zs0.length ≤ maxLen) (hr1 : ints.Reads .i64 w a1 zs1) (hf1 : ∀ i, i < zs1.length → -9223372036854775808 ≤ zs1.getD i 0 ∧ zs1.getD i 0 ≤ 9223372036854775807) (hl1 : zs1.length ≤ maxLen) (hn2 : (Lit.int .i64 n2).wf = true) :
    Calls Try.prog 3 #[.agg #[.slice a0 rows0.length c0, .slice e0 zs0.length d0], .slice a1 zs1.length c1, .int .i64 n2] w fun e w' => e = .returned (.bool true) ∧ Below w.heap.size w w' := by
  unfold maxLen at hl0 hl1 hk0 hm0
  by_cases hs : zs1.length ≤ 1048576 ∧ (rows0.length : Int) + (grid.tot rows0 : Int) + (zs0.length : Int) ≤ 1048576
  · obtain ⟨hs0, hs1⟩ := hs
    cases hk : lefts.npB rows0 zs0 zs1 n2
    · exact fnExactNearestPlacesw.law_small a0 rows0 c0 e0 zs0 d0 a1 zs1 c1 n2 [] false w hr0 hq0 hr1 hs0 hs1 (by simp) (Lib.hid fun _ _ _ _ _ _ w hr hz hx => neart.spec_np_no _ rows0 _ _ zs0 _ _ zs1 _ n2 w hr hz hx (by omega) (by omega) (fun r hr => by have := grid.len_le_tot rows0 r hr; omega) (by omega) hk) (Lib.hid fun _ _ _ _ _ _ w hr hz hx => neart.impl_np_no _ rows0 _ _ zs0 _ _ zs1 _ n2 w hr hz hx (by omega) (by omega) (fun r hr => by have := grid.len_le_tot rows0 r hr; omega) (by omega) hk)
    have h14 := (lefts.npB_iff _ _ _ _).1 hk
    have h16 := ((sampleB_iff _ _).1 h14.1).1
    obtain ⟨m, rfl⟩ : ∃ m : Nat, n2 = (m : Int) := ⟨n2.toNat, by omega⟩
    exact fnExactNearestPlacesw.law_small a0 rows0 c0 e0 zs0 d0 a1 zs1 c1 (m : Int) ((nearp.near (nearp.dist rows0 zs1) (neart.ids rows0.length)).take m) true w hr0 hq0 hr1 hs0 hs1 (by rw [List.length_take]; omega) (Lib.hid fun _ _ _ _ _ _ w hr hz hx => neart.spec_np_yes _ rows0 _ _ zs0 _ _ zs1 _ m w hr hz hx (by omega) (by omega) (fun r hr => by have := grid.len_le_tot rows0 r hr; omega) (by omega) hk) (Lib.hid fun _ _ _ _ _ _ w hr hz hx => neart.impl_np_yes _ rows0 _ _ zs0 _ _ zs1 _ m w hr hz hx (by omega) (by omega) (fun r hr => by have := grid.len_le_tot rows0 r hr; omega) (by omega) hk)
  · exact fnExactNearestPlacesw.law_big a0 rows0 c0 e0 zs0 d0 a1 zs1 c1 n2 w hr0 hq0 hr1 hl0 (fun s hs => (hm0 s hs).1) hk0 hl1 hs
end Go.Proofs.Ytkbcofgigfnfaaa.fnExactNearestPlacesl
