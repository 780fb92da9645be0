/- The law FnExactNegateNet: its walk, from the walks of the model's and the program's function. -/
import Derived.Test.YtoephhhofkmgjaaFnExactNegateNetW
import Derived.Test.YtoephhhofkmgjaaNegS
import Derived.Test.YtoephhhofkmgjaaNegI
import Derived.Test.YtoephhhofkmgjaaGrid
namespace Go.Proofs.Ytoephhhofkmgjaa.fnExactNegateNetl
open Go.RowKit own pp
set_option linter.unusedVariables false

theorem law (a0 : Option Addr) (ls0 : List (List (List Int × Int))) (c0 : Nat) (t0 : Int) (w : World) (hr0 : ReadsL w a0 ls0) (hm0 : ∀ l ∈ ls0, l.length ≤ maxLen ∧ ∀ y ∈ l, y.1.length ≤ maxLen ∧ (∀ z ∈ y.1, grid.Fits z) ∧ grid.Fits y.2) (hl0 : ls0.length ≤ maxLen) (hb0 : grid.Fits t0) :
    Calls Try.prog 11 #[.agg #[.int .i64 t0, .slice a0 ls0.length c0]] w fun e w' => e = .returned (.bool true) ∧ Below w.heap.size w w' := by
  unfold maxLen at hl0 hm0
  by_cases hs : (ls0.length : Int) + (totL ls0 : Int) ≤ 1048576
  · have hs0 := hs
    cases hk : netp.netB t0 ls0
    · exact fnExactNegateNetw.law_small a0 ls0 c0 t0 [] 0 false w hr0 hs0 (by simp [totL]) (Lib.hid fun _ _ w h => negs.spec_neg_no _ ls0 _ t0 w h (by omega) (fun s hs => by have h9 := len_le_totL ls0 s hs; exact ⟨by omega, fun y hy => by have := planesfns.len_le_totJ s y hy; omega⟩) hk) (Lib.hid fun _ _ w h => negi.impl_neg_no _ ls0 _ t0 w h (by omega) (fun s hs => by have h9 := len_le_totL ls0 s hs; exact ⟨by omega, fun y hy => by have := planesfns.len_le_totJ s y hy; omega⟩) hk)
    cases hb : negs.negB t0 ls0
    · exact fnExactNegateNetw.law_small a0 ls0 c0 t0 [] 0 false w hr0 hs0 (by simp [totL]) (Lib.hid fun _ _ w h => negs.spec_neg_net _ ls0 _ t0 w h (by omega) (fun s hs => by have h9 := len_le_totL ls0 s hs; exact ⟨by omega, fun y hy => by have := planesfns.len_le_totJ s y hy; omega⟩) hk [] 0 false (Lib.hid (.inr ⟨hb, rfl, rfl, rfl⟩))) (Lib.hid fun _ _ w h => negi.impl_neg_net _ ls0 _ t0 w h (by omega) (fun s hs => by have h9 := len_le_totL ls0 s hs; exact ⟨by omega, fun y hy => by have := planesfns.len_le_totJ s y hy; omega⟩) hk [] 0 false (Lib.hid (.inr ⟨hb, rfl, rfl, rfl⟩)))
    · exact fnExactNegateNetw.law_small a0 ls0 c0 t0 (negs.negL ls0) t0 true w hr0 hs0 (by rw [negs.negL_tot]; omega) (Lib.hid fun _ _ w h => negs.spec_neg_net _ ls0 _ t0 w h (by omega) (fun s hs => by have h9 := len_le_totL ls0 s hs; exact ⟨by omega, fun y hy => by have := planesfns.len_le_totJ s y hy; omega⟩) hk (negs.negL ls0) t0 true (Lib.hid (.inl ⟨hb, rfl, rfl, rfl⟩))) (Lib.hid fun _ _ w h => negi.impl_neg_net _ ls0 _ t0 w h (by omega) (fun s hs => by have h9 := len_le_totL ls0 s hs; exact ⟨by omega, fun y hy => by have := planesfns.len_le_totJ s y hy; omega⟩) hk (negs.negL ls0) t0 true (Lib.hid (.inl ⟨hb, rfl, rfl, rfl⟩)))
  · exact fnExactNegateNetw.law_big a0 ls0 c0 t0 w hr0 hl0 (fun s hs => ⟨(hm0 s hs).1, fun y hy => ((hm0 s hs).2 y hy).1⟩) hs
end Go.Proofs.Ytoephhhofkmgjaa.fnExactNegateNetl
