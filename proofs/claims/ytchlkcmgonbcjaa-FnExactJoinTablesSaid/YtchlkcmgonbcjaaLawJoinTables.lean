/- The law FnExactJoinTables: its walk, from the walks of the model's and the program's function. -/
import Derived.Test.YtchlkcmgonbcjaaFnExactJoinTablesW
import Derived.Test.YtchlkcmgonbcjaaJoinT
import Derived.Test.YtchlkcmgonbcjaaGrid
namespace Go.Proofs.Ytchlkcmgonbcjaa.fnExactJoinTablesl
open Go.RowKit own pp
set_option linter.unusedVariables false

theorem law (n0 : Int) (a1 : Option Addr) (zs1 : List Int) (c1 : Nat) (a2 : Option Addr) (zs2 : List Int) (c2 : Nat) (w : World) (hn0 : (Lit.int .i64 n0).wf = true) (hr1 : ints.Reads .i64 w a1 zs1) (hf1 : ∀ i, i < zs1.length → -9223372036854775808 ≤ zs1.getD i 0 ∧ zs1.getD i 0 ≤ 9223372036854775807) (hl1 : zs1.length ≤ maxLen) (hr2 : ints.Reads .i64 w a2 zs2) (hf2 : ∀ i, i < zs2.length → -9223372036854775808 ≤ zs2.getD i 0 ∧ zs2.getD i 0 ≤ 9223372036854775807) (hl2 : zs2.length ≤ maxLen) :
    Calls Try.prog 12 #[.int .i64 n0, .slice a1 zs1.length c1, .slice a2 zs2.length c2] w fun e w' => e = .returned (.bool true) ∧ Below w.heap.size w w' := by
  unfold maxLen at hl1 hl2 
  by_cases hs : zs1.length ≤ 1048576 ∧ zs2.length ≤ 1048576
  · obtain ⟨hs0, hs1⟩ := hs
    cases hk : joint.joB n0 zs1 zs2
    · exact fnExactJoinTablesw.law_small n0 a1 zs1 c1 a2 zs2 c2 [] false w hr1 hr2 hs0 hs1 (by simp) (Lib.hid fun _ _ _ _ _ h k => joint.spec_no _ _ _ _ _ _ _ _ h k hk) (Lib.hid fun _ _ _ _ _ h k => joint.impl_no _ _ _ _ _ _ _ _ h k hk)
    · have hkk := hk
      unfold joint.joB at hkk
      rw [Bool.and_eq_true, Bool.and_eq_true] at hkk
      have h1 := (joint.jo_len hkk.1).2
      have h2 := (joint.jo_len hkk.2.1).2
      exact fnExactJoinTablesw.law_small n0 a1 zs1 c1 a2 zs2 c2 (zs1 ++ zs2) true w hr1 hr2 hs0 hs1 (by rw [List.length_append]; omega) (Lib.hid fun _ _ _ _ _ h k => joint.spec_yes _ _ _ _ _ _ _ _ h k hk) (Lib.hid fun _ _ _ _ _ h k => joint.impl_yes _ _ _ _ _ _ _ _ h k hk)
  · exact fnExactJoinTablesw.law_big n0 a1 zs1 c1 a2 zs2 c2 w hr1 hr2 hl1 hl2 hs
end Go.Proofs.Ytchlkcmgonbcjaa.fnExactJoinTablesl
