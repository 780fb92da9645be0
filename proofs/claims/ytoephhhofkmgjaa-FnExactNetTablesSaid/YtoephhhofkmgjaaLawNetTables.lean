/- The law FnExactNetTables: its walk, from the walks of the model's and the program's function. -/
import Derived.Test.YtoephhhofkmgjaaFnExactNetTablesW
import Derived.Test.YtoephhhofkmgjaaTabI
import Derived.Test.YtoephhhofkmgjaaGrid
namespace Go.Proofs.Ytoephhhofkmgjaa.fnExactNetTablesl
open Go.RowKit own pp
set_option linter.unusedVariables false

theorem law (a0 : Option Addr) (ls0 : List (List (List Int × Int))) (c0 : Nat) (t0 : Int) (w : World) (hr0 : ReadsL w a0 ls0) (hm0 : ∀ l ∈ ls0, l.length ≤ maxLen ∧ ∀ y ∈ l, y.1.length ≤ maxLen ∧ (∀ z ∈ y.1, grid.Fits z) ∧ grid.Fits y.2) (hl0 : ls0.length ≤ maxLen) (hb0 : grid.Fits t0) :
    Calls Try.prog 5 #[.agg #[.int .i64 t0, .slice a0 ls0.length c0]] w fun e w' => e = .returned (.bool true) ∧ Below w.heap.size w w' := by
  unfold maxLen at hl0 hm0
  by_cases hs : (ls0.length : Int) + (totL ls0 : Int) ≤ 1048576
  · have hs0 := hs
    cases hk : netp.netB t0 ls0
    · exact fnExactNetTablesw.law_small a0 ls0 c0 t0 [] false w hr0 hs0 (by simp [grid.tot]) (Lib.hid fun _ _ w h => tabi9.spec_tab_no _ ls0 _ t0 w h (by omega) (fun s hs => by have h9 := len_le_totL ls0 s hs; exact ⟨by omega, fun y hy => by have := planesfns.len_le_totJ s y hy; omega⟩) hk) (Lib.hid fun _ _ w h => tabi9.impl_tab_no _ ls0 _ t0 w h (by omega) (fun s hs => by have h9 := len_le_totL ls0 s hs; exact ⟨by omega, fun y hy => by have := planesfns.len_le_totJ s y hy; omega⟩) hk)
    have h14 : t0.toNat ≤ 4 := by have := (netp.netB_iff _ _).1 hk; omega
    have h16 := (mk.pow4 h14).2
    have hm4 : tabp.outs ls0 ≤ 4 := (netp.net_lay hk (ls0.length - 1) (by have := netp.net_len hk; omega)).2
    have hsz : (tabp.tabs t0.toNat ls0).length + grid.tot (tabp.tabs t0.toNat ls0) ≤ 1048576 := by
      rw [tabp.tabs_tot, tabp.tabs_length]
      have := Nat.mul_le_mul hm4 h16
      omega
    exact fnExactNetTablesw.law_small a0 ls0 c0 t0 (tabp.tabs t0.toNat ls0) true w hr0 hs0 hsz (Lib.hid fun _ _ w h => tabi9.spec_tab_yes _ ls0 _ t0 w h (by omega) (fun s hs => by have h9 := len_le_totL ls0 s hs; exact ⟨by omega, fun y hy => by have := planesfns.len_le_totJ s y hy; omega⟩) hk) (Lib.hid fun _ _ w h => tabi9.impl_tab_yes _ ls0 _ t0 w h (by omega) (fun s hs => by have h9 := len_le_totL ls0 s hs; exact ⟨by omega, fun y hy => by have := planesfns.len_le_totJ s y hy; omega⟩) hk)
  · exact fnExactNetTablesw.law_big a0 ls0 c0 t0 w hr0 hl0 (fun s hs => ⟨(hm0 s hs).1, fun y hy => ((hm0 s hs).2 y hy).1⟩) hs
end Go.Proofs.Ytoephhhofkmgjaa.fnExactNetTablesl
