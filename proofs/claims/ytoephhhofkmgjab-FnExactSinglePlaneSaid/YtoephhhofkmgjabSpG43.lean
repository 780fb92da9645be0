/- Several texts in one. -/
import Derived.Test.YtoephhhofkmgjabSpG9
import Derived.Test.YtoephhhofkmgjabSpG42
import Derived.Test.YtoephhhofkmgjabSpG13
import Derived.Test.YtoephhhofkmgjabSpG4
namespace Go.Proofs.Ytoephhhofkmgjab.fnExactSinglePlanel
open Go.RowKit own pp
set_option linter.unusedVariables false

theorem law (a0 : Option Addr) (ls0 : List (List (List Int × Int))) (c0 : Nat) (t0 : Int) (w : World) (hr0 : ReadsL w a0 ls0) (hm0 : ∀ l ∈ ls0, l.length ≤ maxLen ∧ ∀ y ∈ l, y.1.length ≤ maxLen ∧ (∀ z ∈ y.1, grid.Fits z) ∧ grid.Fits y.2) (hl0 : ls0.length ≤ maxLen) (hb0 : grid.Fits t0) :
    Calls Try.prog 6 #[.agg #[.int .i64 t0, .slice a0 ls0.length c0]] w fun e w' => e = .returned (.bool true) ∧ Below w.heap.size w w' := by
  unfold maxLen at hl0 hm0
  by_cases hs : (ls0.length : Int) + (totL ls0 : Int) ≤ 1048576
  · have hs0 := hs
    cases hk : netp.netB t0 ls0
    · exact fnExactSinglePlanew.law_small a0 ls0 c0 t0 [] 0 false w hr0 hs0 (by simp) (Lib.hid fun _ _ w h => single.spec_single_no1 _ ls0 _ t0 w h (by omega) (fun s hs => by have h9 := len_le_totL ls0 s hs; exact ⟨by omega, fun y hy => by have := planesfns.len_le_totJ s y hy; omega⟩) hk) (Lib.hid fun _ _ w h => single.impl_single_no1 _ ls0 _ t0 w h (by omega) (fun s hs => by have h9 := len_le_totL ls0 s hs; exact ⟨by omega, fun y hy => by have := planesfns.len_le_totJ s y hy; omega⟩) hk)
    obtain ⟨m, hm9⟩ : ∃ m : Nat, t0 = (m : Int) := ⟨t0.toNat, by have := (netp.netB_iff _ _).1 hk; omega⟩
    subst hm9
    by_cases ho : tabp.outs ls0 = 1
    · have hs9 := (single.sg_iff (m : Int) ls0).2 ⟨hk, ho⟩
      have hbl := leastn.best_len m (single.tab0 m ls0) (single.tab0_ok hs9)
      exact fnExactSinglePlanew.law_small a0 ls0 c0 (m : Int) (least5.bs m (single.tab0 m ls0) (wts.wts m) (wts.wts m).length).1 (leasti.bv m (single.tab0 m ls0) (wts.wts m).length) (least5.bs m (single.tab0 m ls0) (wts.wts m) (wts.wts m).length).2 w hr0 hs0 (by omega) (Lib.hid fun _ _ w h => single.spec_single_yes _ ls0 _ m w h (by omega) (fun s hs => by have h9 := len_le_totL ls0 s hs; exact ⟨by omega, fun y hy => by have := planesfns.len_le_totJ s y hy; omega⟩) hs9) (Lib.hid fun _ _ w h => single.impl_single_yes _ ls0 _ m w h (by omega) (fun s hs => by have h9 := len_le_totL ls0 s hs; exact ⟨by omega, fun y hy => by have := planesfns.len_le_totJ s y hy; omega⟩) hs9)
    · exact fnExactSinglePlanew.law_small a0 ls0 c0 (m : Int) [] 0 false w hr0 hs0 (by simp) (Lib.hid fun _ _ w h => single.spec_single_no2 _ ls0 _ m w h (by omega) (fun s hs => by have h9 := len_le_totL ls0 s hs; exact ⟨by omega, fun y hy => by have := planesfns.len_le_totJ s y hy; omega⟩) hk ho) (Lib.hid fun _ _ w h => single.impl_single_no2 _ ls0 _ m w h (by omega) (fun s hs => by have h9 := len_le_totL ls0 s hs; exact ⟨by omega, fun y hy => by have := planesfns.len_le_totJ s y hy; omega⟩) hk ho)
  · exact fnExactSinglePlanew.law_big a0 ls0 c0 t0 w hr0 hl0 (fun s hs => ⟨(hm0 s hs).1, fun y hy => ((hm0 s hs).2 y hy).1⟩) hs
end Go.Proofs.Ytoephhhofkmgjab.fnExactSinglePlanel
