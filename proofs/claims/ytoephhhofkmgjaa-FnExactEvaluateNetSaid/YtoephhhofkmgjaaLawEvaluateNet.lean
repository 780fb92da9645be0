/- The law FnExactEvaluateNet: its walk, from the walks of the model's and the program's function. -/
import Derived.Test.YtoephhhofkmgjaaFnExactEvaluateNetW
import Derived.Test.YtoephhhofkmgjaaEvalI
import Derived.Test.YtoephhhofkmgjaaGrid
namespace Go.Proofs.Ytoephhhofkmgjaa.fnExactEvaluateNetl
open Go.RowKit own pp
set_option linter.unusedVariables false

theorem law (a0 : Option Addr) (ls0 : List (List (List Int × Int))) (c0 : Nat) (t0 : Int) (a1 : Option Addr) (zs1 : List Int) (c1 : Nat) (w : World) (hr0 : ReadsL w a0 ls0) (hm0 : ∀ l ∈ ls0, l.length ≤ maxLen ∧ ∀ y ∈ l, y.1.length ≤ maxLen ∧ (∀ z ∈ y.1, grid.Fits z) ∧ grid.Fits y.2) (hl0 : ls0.length ≤ maxLen) (hb0 : grid.Fits t0) (hr1 : ints.Reads .i64 w a1 zs1) (hf1 : ∀ i, i < zs1.length → -9223372036854775808 ≤ zs1.getD i 0 ∧ zs1.getD i 0 ≤ 9223372036854775807) (hl1 : zs1.length ≤ maxLen) :
    Calls Try.prog 4 #[.agg #[.int .i64 t0, .slice a0 ls0.length c0], .slice a1 zs1.length c1] w fun e w' => e = .returned (.bool true) ∧ Below w.heap.size w w' := by
  unfold maxLen at hl0 hl1 hm0
  by_cases hs : zs1.length ≤ 1048576 ∧ (ls0.length : Int) + (totL ls0 : Int) ≤ 1048576
  · obtain ⟨hs0, hs1⟩ := hs
    cases hk : givep.evB t0 ls0 zs1
    · exact fnExactEvaluateNetw.law_small a0 ls0 c0 t0 a1 zs1 c1 [] false w hr0 hr1 hs0 hs1 (by simp) (Lib.hid fun _ _ _ _ w h hx => gives.spec_ev_no _ ls0 _ t0 _ zs1 _ w h (by omega) (fun s hs => by have h9 := len_le_totL ls0 s hs; exact ⟨by omega, fun y hy => by have := planesfns.len_le_totJ s y hy; omega⟩) hx (by omega) hk) (Lib.hid fun _ _ _ _ w h hx => evali.impl_ev_no _ ls0 _ t0 _ zs1 _ w h (by omega) (fun s hs => by have h9 := len_le_totL ls0 s hs; exact ⟨by omega, fun y hy => by have := planesfns.len_le_totJ s y hy; omega⟩) hx (by omega) hk)
    have h2 := (givep.ev_iff _ _ _).1 hk
    have h3 := givep.row_bits h2.2
    have hlr : (givep.runTo ls0 zs1 ls0.length).length ≤ 1048576 := by
      rw [givep.run_length h3.1]; have := netp.net_giv h2.1 ls0.length (Nat.le_refl _); omega
    exact fnExactEvaluateNetw.law_small a0 ls0 c0 t0 a1 zs1 c1 (givep.runTo ls0 zs1 ls0.length) true w hr0 hr1 hs0 hs1 hlr (Lib.hid fun _ _ _ _ w h hx => gives.spec_ev_yes _ ls0 _ t0 _ zs1 _ w h (by omega) (fun s hs => by have h9 := len_le_totL ls0 s hs; exact ⟨by omega, fun y hy => by have := planesfns.len_le_totJ s y hy; omega⟩) hx (by omega) hk) (Lib.hid fun _ _ _ _ w h hx => evali.impl_ev_yes _ ls0 _ t0 _ zs1 _ w h (by omega) (fun s hs => by have h9 := len_le_totL ls0 s hs; exact ⟨by omega, fun y hy => by have := planesfns.len_le_totJ s y hy; omega⟩) hx (by omega) hk)
  · exact fnExactEvaluateNetw.law_big a0 ls0 c0 t0 a1 zs1 c1 w hr0 hr1 hl0 (fun s hs => ⟨(hm0 s hs).1, fun y hy => ((hm0 s hs).2 y hy).1⟩) hl1 hs
end Go.Proofs.Ytoephhhofkmgjaa.fnExactEvaluateNetl
