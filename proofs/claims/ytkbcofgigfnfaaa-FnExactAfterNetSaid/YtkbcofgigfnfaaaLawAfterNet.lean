/- The law FnExactAfterNet: its walk, from the walks of the model's and the program's function. -/
import Derived.Test.YtkbcofgigfnfaaaFnExactAfterNetW
import Derived.Test.YtkbcofgigfnfaaaAftS
import Derived.Test.YtkbcofgigfnfaaaAftI
import Derived.Test.YtkbcofgigfnfaaaNetOpen
import Derived.Test.YtkbcofgigfnfaaaGrid
namespace Go.Proofs.Ytkbcofgigfnfaaa.fnExactAfterNetl
open Go.RowKit own pp
set_option linter.unusedVariables false

theorem law (a0 : Option Addr) (ls0 : List (List (List Int × Int))) (c0 : Nat) (t0 : Int) (a1 : Option Addr) (ls1 : List (List (List Int × Int))) (c1 : Nat) (t1 : Int) (w : World) (hr0 : ReadsL w a0 ls0) (hm0 : ∀ l ∈ ls0, l.length ≤ maxLen ∧ ∀ y ∈ l, y.1.length ≤ maxLen ∧ (∀ z ∈ y.1, grid.Fits z) ∧ grid.Fits y.2) (hl0 : ls0.length ≤ maxLen) (hb0 : grid.Fits t0) (hr1 : ReadsL w a1 ls1) (hm1 : ∀ l ∈ ls1, l.length ≤ maxLen ∧ ∀ y ∈ l, y.1.length ≤ maxLen ∧ (∀ z ∈ y.1, grid.Fits z) ∧ grid.Fits y.2) (hl1 : ls1.length ≤ maxLen) (hb1 : grid.Fits t1) :
    Calls Try.prog 14 #[.agg #[.int .i64 t0, .slice a0 ls0.length c0], .agg #[.int .i64 t1, .slice a1 ls1.length c1]] w fun e w' => e = .returned (.bool true) ∧ Below w.heap.size w w' := by
  unfold maxLen at hl0 hl1 hm0 hm1
  by_cases hs : (ls0.length : Int) + (totL ls0 : Int) + (ls1.length : Int) + (totL ls1 : Int) ≤ 1048576
  · have hs0 := hs
    cases hk : aftp.anB t0 ls0 t1 ls1
    · by_cases h3 : netp.netB t0 ls0 = true ∧ netp.netB t1 ls1 = true ∧ t1 = ((ls0.getD (ls0.length - 1) []).length : Int)
      · have h4 : ¬ ls0.length + ls1.length ≤ 6 := fun e => by
          have := (aftp.anB_iff _ _ _ _).2 ⟨h3.1, h3.2.1, h3.2.2, e⟩
          rw [hk] at this; cases this
        exact fnExactAfterNetw.law_small a0 ls0 c0 t0 a1 ls1 c1 t1 [] 0 false w hr0 hr1 hs0 (by simp [totL]) (Lib.hid fun _ _ _ _ w h0 h1 => afts.spec_an_no _ ls0 _ t0 _ ls1 _ t1 w h0 h1 (by omega) (by omega) (fun s hs => by have h9 := len_le_totL ls0 s hs; exact ⟨by omega, fun y hy => by have := planesfns.len_le_totJ s y hy; omega⟩) (fun s hs => by have h9 := len_le_totL ls1 s hs; exact ⟨by omega, fun y hy => by have := planesfns.len_le_totJ s y hy; omega⟩) hk) (Lib.hid fun _ _ _ _ w h0 h1 => afti.impl_an_out _ ls0 _ t0 _ ls1 _ t1 w h0 h1 (by omega) (by omega) (fun s hs => by have h9 := len_le_totL ls0 s hs; exact ⟨by omega, fun y hy => by have := planesfns.len_le_totJ s y hy; omega⟩) (fun s hs => by have h9 := len_le_totL ls1 s hs; exact ⟨by omega, fun y hy => by have := planesfns.len_le_totJ s y hy; omega⟩) ⟨h3.1, h3.2.1, h3.2.2, h4⟩)
      · have h5 : netp.netB t0 ls0 = false ∨ netp.netB t1 ls1 = false ∨ ¬ t1 = ((ls0.getD (ls0.length - 1) []).length : Int) := by
          cases e0 : netp.netB t0 ls0
          · exact .inl rfl
          · cases e1 : netp.netB t1 ls1
            · exact .inr (.inl rfl)
            · exact .inr (.inr (fun e => h3 ⟨e0, e1, e⟩))
        exact fnExactAfterNetw.law_small a0 ls0 c0 t0 a1 ls1 c1 t1 [] 0 false w hr0 hr1 hs0 (by simp [totL]) (Lib.hid fun _ _ _ _ w h0 h1 => afts.spec_an_no _ ls0 _ t0 _ ls1 _ t1 w h0 h1 (by omega) (by omega) (fun s hs => by have h9 := len_le_totL ls0 s hs; exact ⟨by omega, fun y hy => by have := planesfns.len_le_totJ s y hy; omega⟩) (fun s hs => by have h9 := len_le_totL ls1 s hs; exact ⟨by omega, fun y hy => by have := planesfns.len_le_totJ s y hy; omega⟩) hk) (Lib.hid fun _ _ _ _ w h0 h1 => afti.impl_an_no _ ls0 _ t0 _ ls1 _ t1 w h0 h1 (by omega) (by omega) (fun s hs => by have h9 := len_le_totL ls0 s hs; exact ⟨by omega, fun y hy => by have := planesfns.len_le_totJ s y hy; omega⟩) (fun s hs => by have h9 := len_le_totL ls1 s hs; exact ⟨by omega, fun y hy => by have := planesfns.len_le_totJ s y hy; omega⟩) h5)
    · have h3 := (aftp.anB_iff _ _ _ _).1 hk
      exact fnExactAfterNetw.law_small a0 ls0 c0 t0 a1 ls1 c1 t1 (ls0 ++ ls1) t0 true w hr0 hr1 hs0 (by rw [List.length_append, aftp.tot_join]; omega) (Lib.hid fun _ _ _ _ w h0 h1 => afts.spec_an_yes _ ls0 _ t0 _ ls1 _ t1 w h0 h1 (by omega) (by omega) (fun s hs => by have h9 := len_le_totL ls0 s hs; exact ⟨by omega, fun y hy => by have := planesfns.len_le_totJ s y hy; omega⟩) (fun s hs => by have h9 := len_le_totL ls1 s hs; exact ⟨by omega, fun y hy => by have := planesfns.len_le_totJ s y hy; omega⟩) hk) (Lib.hid fun _ _ _ _ w h0 h1 => afti.impl_an_yes _ ls0 _ t0 _ ls1 _ t1 w h0 h1 (by omega) (by omega) (fun s hs => by have h9 := len_le_totL ls0 s hs; exact ⟨by omega, fun y hy => by have := planesfns.len_le_totJ s y hy; omega⟩) (fun s hs => by have h9 := len_le_totL ls1 s hs; exact ⟨by omega, fun y hy => by have := planesfns.len_le_totJ s y hy; omega⟩) h3)
  · exact fnExactAfterNetw.law_big a0 ls0 c0 t0 a1 ls1 c1 t1 w hr0 hr1 hl0 (fun s hs => ⟨(hm0 s hs).1, fun y hy => ((hm0 s hs).2 y hy).1⟩) hl1 (fun s hs => ⟨(hm1 s hs).1, fun y hy => ((hm1 s hs).2 y hy).1⟩) hs
end Go.Proofs.Ytkbcofgigfnfaaa.fnExactAfterNetl
