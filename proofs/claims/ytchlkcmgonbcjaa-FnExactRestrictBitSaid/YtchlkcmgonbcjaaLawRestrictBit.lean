/- The law FnExactRestrictBit: its walk, from the walks of the model's and the program's function. -/
import Derived.Test.YtchlkcmgonbcjaaFnExactRestrictBitW
import Derived.Test.YtchlkcmgonbcjaaRestr
import Derived.Test.YtchlkcmgonbcjaaGrid
namespace Go.Proofs.Ytchlkcmgonbcjaa.fnExactRestrictBitl
open Go.RowKit own pp
set_option linter.unusedVariables false

theorem law (n0 : Int) (a1 : Option Addr) (zs1 : List Int) (c1 : Nat) (n2 : Int) (n3 : Int) (w : World) (hn0 : (Lit.int .i64 n0).wf = true) (hr1 : ints.Reads .i64 w a1 zs1) (hf1 : ∀ i, i < zs1.length → -9223372036854775808 ≤ zs1.getD i 0 ∧ zs1.getD i 0 ≤ 9223372036854775807) (hl1 : zs1.length ≤ maxLen) (hn2 : (Lit.int .i64 n2).wf = true) (hn3 : (Lit.int .i64 n3).wf = true) :
    Calls Try.prog 11 #[.int .i64 n0, .slice a1 zs1.length c1, .int .i64 n2, .int .i64 n3] w fun e w' => e = .returned (.bool true) ∧ Below w.heap.size w w' := by
  unfold maxLen at hl1 
  by_cases hs : zs1.length ≤ 1048576
  · have hs0 := hs
    cases hk : tab.tabB n0 zs1
    · exact fnExactRestrictBitw.law_small n0 a1 zs1 c1 n2 n3 [] false w hr1 hs0 (by simp) (Lib.hid fun _ _ _ h => restr.spec_no _ _ _ _ _ _ _ h hk) (Lib.hid fun _ _ _ h => restr.impl_no _ _ _ _ _ _ _ h hk)
    by_cases hx : n2 < 0
    · exact fnExactRestrictBitw.law_small n0 a1 zs1 c1 n2 n3 [] false w hr1 hs0 (by simp) (Lib.hid fun _ _ _ h => restr.spec_no2 _ _ _ _ _ _ _ h hk (by rw [Bool.and_eq_false_iff, decide_eq_false_iff_not, decide_eq_false_iff_not]; omega)) (Lib.hid fun _ _ _ h => restr.impl_lo _ _ _ _ _ _ _ h hk hx)
    by_cases hx2 : n0 ≤ n2
    · exact fnExactRestrictBitw.law_small n0 a1 zs1 c1 n2 n3 [] false w hr1 hs0 (by simp) (Lib.hid fun _ _ _ h => restr.spec_no2 _ _ _ _ _ _ _ h hk (by rw [Bool.and_eq_false_iff, decide_eq_false_iff_not, decide_eq_false_iff_not]; omega)) (Lib.hid fun _ _ _ h => restr.impl_hi _ _ _ _ _ _ _ h hk hx hx2)
    have hx3 : (decide (0 ≤ n2) && decide (n2 ≤ n0 - 1)) = true := by rw [decide_eq_true (by omega), decide_eq_true (by omega)]; rfl
    cases hy : range.inR 0 1 n3
    · exact fnExactRestrictBitw.law_small n0 a1 zs1 c1 n2 n3 [] false w hr1 hs0 (by simp) (Lib.hid fun _ _ _ h => restr.spec_no3 _ _ _ _ _ _ _ h hk hx3 hy) (Lib.hid fun _ _ _ h => restr.impl_no3 _ _ _ _ _ _ _ h hk hx hx2 hy)
    have hy2 := (range.inR_iff _ _ _).1 hy
    obtain ⟨bt, rfl⟩ : ∃ bt : Nat, n2 = bt := ⟨n2.toNat, by omega⟩
    obtain ⟨vt, rfl⟩ : ∃ vt : Nat, n3 = vt := ⟨n3.toNat, by omega⟩
    exact fnExactRestrictBitw.law_small n0 a1 zs1 c1 (bt : Int) (vt : Int) (restr.rest zs1 bt vt zs1.length) true w hr1 hs0 (by have := restr.rest_len zs1 bt vt zs1.length; omega) (Lib.hid fun _ _ _ h => restr.spec_yes _ _ _ _ _ _ _ h hk (by omega) (by omega)) (Lib.hid fun _ _ _ h => restr.impl_yes _ _ _ _ _ _ _ h hk (by omega) (by omega))
  · exact fnExactRestrictBitw.law_big n0 a1 zs1 c1 n2 n3 w hr1 hl1 hs
end Go.Proofs.Ytchlkcmgonbcjaa.fnExactRestrictBitl
