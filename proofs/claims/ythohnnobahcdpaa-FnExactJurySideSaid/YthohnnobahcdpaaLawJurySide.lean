/- The law FnExactJurySide: its walk, from the walks of the model's and the program's function. -/
import Derived.Test.YthohnnobahcdpaaFnExactJurySideW
import Derived.Test.YthohnnobahcdpaaJuryI
import Derived.Test.YthohnnobahcdpaaGrid
namespace Go.Proofs.Ythohnnobahcdpaa.fnExactJurySidel
open Go.RowKit own pp
set_option linter.unusedVariables false

theorem law (a0 : Option Addr) (ps0 : List (List Int × Int)) (c0 : Nat) (a1 : Option Addr) (zs1 : List Int) (c1 : Nat) (w : World) (hr0 : ReadsJ w a0 ps0) (hm0 : ∀ y ∈ ps0, y.1.length ≤ maxLen ∧ (∀ z ∈ y.1, grid.Fits z) ∧ grid.Fits y.2) (hl0 : ps0.length ≤ maxLen) (hr1 : ints.Reads .i64 w a1 zs1) (hf1 : ∀ i, i < zs1.length → -9223372036854775808 ≤ zs1.getD i 0 ∧ zs1.getD i 0 ≤ 9223372036854775807) (hl1 : zs1.length ≤ maxLen) :
    Calls Try.prog 9 #[.slice a0 ps0.length c0, .slice a1 zs1.length c1] w fun e w' => e = .returned (.bool true) ∧ Below w.heap.size w w' := by
  unfold maxLen at hl0 hl1 hm0
  by_cases hs : zs1.length ≤ 1048576 ∧ (ps0.length : Int) + (planesfns.totJ ps0 : Int) ≤ 1048576
  · obtain ⟨hs0, hs1⟩ := hs
    cases hj : jurs.juryB ps0
    · exact fnExactJurySidew.law_small a0 ps0 c0 a1 zs1 c1 0 false w hr0 hr1 hs0 hs1  (Lib.hid fun _ _ _ _ w hx hy hq => jurs.spec_side_no1 _ ps0 _ _ zs1 _ w hx hy (by omega) (fun k hk => by have := planesfns.getD_le_totJ ps0 k; omega) (by omega) hj) (Lib.hid fun _ _ _ _ w hx hy hq => juri.impl_side_no _ ps0 _ _ zs1 _ w hx hy (by omega) (fun k hk => by have := planesfns.getD_le_totJ ps0 k; omega) hq (by omega) (by rw [hj]; rfl))
    cases ho : oneB (ps0.getD 0 ([], 0)).1 (ps0.getD 0 ([], 0)).2 zs1
    · exact fnExactJurySidew.law_small a0 ps0 c0 a1 zs1 c1 0 false w hr0 hr1 hs0 hs1  (Lib.hid fun _ _ _ _ w hx hy hq => jurs.spec_side_no2 _ ps0 _ _ zs1 _ w hx hy (by omega) (fun k hk => by have := planesfns.getD_le_totJ ps0 k; omega) (by omega) hj ho) (Lib.hid fun _ _ _ _ w hx hy hq => juri.impl_side_no _ ps0 _ _ zs1 _ w hx hy (by omega) (fun k hk => by have := planesfns.getD_le_totJ ps0 k; omega) hq (by omega) (by rw [hj, ho]; rfl))
    · exact fnExactJurySidew.law_small a0 ps0 c0 a1 zs1 c1 (jurs.jside ps0 zs1) true w hr0 hr1 hs0 hs1  (Lib.hid fun _ _ _ _ w hx hy hq => jurs.spec_side_yes _ ps0 _ _ zs1 _ w hx hy (by omega) (fun k hk => by have := planesfns.getD_le_totJ ps0 k; omega) (by omega) hj ho) (Lib.hid fun _ _ _ _ w hx hy hq => juri.impl_side_yes _ ps0 _ _ zs1 _ w hx hy (by omega) (fun k hk => by have := planesfns.getD_le_totJ ps0 k; omega) hq (by omega) (by rw [hj, ho]; rfl))
  · exact fnExactJurySidew.law_big a0 ps0 c0 a1 zs1 c1 w hr0 hr1 hl0 (fun s hs => (hm0 s hs).1) hl1 hs
end Go.Proofs.Ythohnnobahcdpaa.fnExactJurySidel
