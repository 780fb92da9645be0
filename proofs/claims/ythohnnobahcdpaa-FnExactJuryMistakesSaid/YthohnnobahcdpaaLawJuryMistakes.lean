/- The law FnExactJuryMistakes: its walk, from the walks of the model's and the program's function. -/
import Derived.Test.YthohnnobahcdpaaFnExactJuryMistakesW
import Derived.Test.YthohnnobahcdpaaJuryI
import Derived.Test.YthohnnobahcdpaaGrid
namespace Go.Proofs.Ythohnnobahcdpaa.fnExactJuryMistakesl
open Go.RowKit own pp
set_option linter.unusedVariables false

theorem law (a0 : Option Addr) (rows0 : List (List Int)) (c0 : Nat) (e0 : Option Addr) (zs0 : List Int) (d0 : Nat) (a1 : Option Addr) (ps1 : List (List Int × Int)) (c1 : Nat) (w : World) (hr0 : grid.Reads w a0 rows0) (hm0 : ∀ r ∈ rows0, r.length ≤ maxLen ∧ ∀ z ∈ r, grid.Fits z) (hl0 : rows0.length ≤ maxLen) (hq0 : ints.Reads .i64 w e0 zs0) (hf0 : ∀ z ∈ zs0, grid.Fits z) (hk0 : zs0.length ≤ maxLen) (hr1 : ReadsJ w a1 ps1) (hm1 : ∀ y ∈ ps1, y.1.length ≤ maxLen ∧ (∀ z ∈ y.1, grid.Fits z) ∧ grid.Fits y.2) (hl1 : ps1.length ≤ maxLen) :
    Calls Try.prog 10 #[.agg #[.slice a0 rows0.length c0, .slice e0 zs0.length d0], .slice a1 ps1.length c1] w fun e w' => e = .returned (.bool true) ∧ Below w.heap.size w w' := by
  unfold maxLen at hl0 hl1 hk0 hm0 hm1
  by_cases hs : (rows0.length : Int) + (grid.tot rows0 : Int) + (zs0.length : Int) + (ps1.length : Int) + (planesfns.totJ ps1 : Int) ≤ 1048576
  · have hs0 := hs
    cases hj : jurs.juryB ps1
    · exact fnExactJuryMistakesw.law_small a0 rows0 c0 e0 zs0 d0 a1 ps1 c1 [] false w hr0 hq0 hr1 hs0 (by simp) (Lib.hid fun _ _ _ _ _ _ w hr hz hx => jurs.spec_mis_no1 _ rows0 _ _ zs0 _ _ ps1 _ w hr hz hx (by omega) (by omega) (fun r hr => by have := grid.len_le_tot rows0 r hr; omega) (by omega) (fun k hk => by have := planesfns.getD_le_totJ ps1 k; omega) hj) (Lib.hid fun _ _ _ _ _ _ w hr hz hx => juri.impl_mis_no _ rows0 _ _ zs0 _ _ ps1 _ w hr hz hx (by omega) (by omega) (fun r hr => by have := grid.len_le_tot rows0 r hr; omega) (by omega) (fun k hk => by have := planesfns.getD_le_totJ ps1 k; omega) (by rw [juri.maj_eq, hj]; rfl))
    cases ho : both.bothB rows0 zs0 (ps1.getD 0 ([], 0)).1 (ps1.getD 0 ([], 0)).2
    · exact fnExactJuryMistakesw.law_small a0 rows0 c0 e0 zs0 d0 a1 ps1 c1 [] false w hr0 hq0 hr1 hs0 (by simp) (Lib.hid fun _ _ _ _ _ _ w hr hz hx => jurs.spec_mis_no2 _ rows0 _ _ zs0 _ _ ps1 _ w hr hz hx (by omega) (by omega) (fun r hr => by have := grid.len_le_tot rows0 r hr; omega) (by omega) (fun k hk => by have := planesfns.getD_le_totJ ps1 k; omega) hj ho) (Lib.hid fun _ _ _ _ _ _ w hr hz hx => juri.impl_mis_no _ rows0 _ _ zs0 _ _ ps1 _ w hr hz hx (by omega) (by omega) (fun r hr => by have := grid.len_le_tot rows0 r hr; omega) (by omega) (fun k hk => by have := planesfns.getD_le_totJ ps1 k; omega) (by rw [juri.maj_eq, hj, ho]; rfl))
    · exact fnExactJuryMistakesw.law_small a0 rows0 c0 e0 zs0 d0 a1 ps1 c1 (pwh.placesTo (fun k => jurs.jside ps1 (rows0.getD k []) != zs0.getD k 0) rows0.length) true w hr0 hq0 hr1 hs0 (by have := pwh.placesTo_length (fun k => jurs.jside ps1 (rows0.getD k []) != zs0.getD k 0) rows0.length; omega) (Lib.hid fun _ _ _ _ _ _ w hr hz hx => jurs.spec_mis_yes _ rows0 _ _ zs0 _ _ ps1 _ w hr hz hx (by omega) (by omega) (fun r hr => by have := grid.len_le_tot rows0 r hr; omega) (by omega) (fun k hk => by have := planesfns.getD_le_totJ ps1 k; omega) hj ho) (Lib.hid fun _ _ _ _ _ _ w hr hz hx => juri.impl_mis_yes _ rows0 _ _ zs0 _ _ ps1 _ w hr hz hx (by omega) (by omega) (fun r hr => by have := grid.len_le_tot rows0 r hr; omega) (by omega) (fun k hk => by have := planesfns.getD_le_totJ ps1 k; omega) (by rw [juri.maj_eq, hj, ho]; rfl))
  · exact fnExactJuryMistakesw.law_big a0 rows0 c0 e0 zs0 d0 a1 ps1 c1 w hr0 hq0 hr1 hl0 (fun s hs => (hm0 s hs).1) hk0 hl1 (fun s hs => (hm1 s hs).1) hs
end Go.Proofs.Ythohnnobahcdpaa.fnExactJuryMistakesl
