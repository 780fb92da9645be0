/- The law FnExactJoinNets: its walk, from the walks of the model's and the program's function. -/
import Derived.Test.YtkbcofgigfnfaabFnExactJoinNetsW
import Derived.Test.YtkbcofgigfnfaabJoinS
import Derived.Test.YtkbcofgigfnfaabJoinI
import Derived.Test.YtkbcofgigfnfaabNetOpen
import Derived.Test.YtkbcofgigfnfaabGrid
namespace Go.Proofs.Ytkbcofgigfnfaab.fnExactJoinNetsl
open Go.RowKit own pp
set_option linter.unusedVariables false

theorem tot_small : ∀ (l : List (List Int × Int)), (∀ y ∈ l, y.1.length ≤ 12) → planesfns.totJ l ≤ l.length * 12
  | [], _ => by simp [planesfns.totJ, grid.tot]
  | y :: l, h => by
    have h1 := tot_small l (fun z hz => h z (by simp [hz]))
    have h2 := h y (by simp)
    simp [planesfns.totJ, grid.tot] at h1 ⊢
    omega
theorem totL_small : ∀ (ls : List (List (List Int × Int))), (∀ x ∈ ls, x.length ≤ 8 ∧ ∀ y ∈ x, y.1.length ≤ 12) → totL ls ≤ ls.length * 104
  | [], _ => by simp [totL]
  | x :: ls, h => by
    have h1 := totL_small ls (fun z hz => h z (by simp [hz]))
    have h2 := h x (by simp)
    have h3 := tot_small x h2.2
    simp [totL] at h1 ⊢
    omega
theorem jn_tot {n : Int} {ls ms : List (List (List Int × Int))} (h : netp.netB n ls = true) (h' : netp.netB n ms = true) (hl : ls.length = ms.length) : (widp.jnT ls ms ls.length).length + totL (widp.jnT ls ms ls.length) ≤ 1000 := by
  have h1 := widp.jn_small h h' hl
  have h2 := totL_small _ h1.2
  omega
theorem law (a0 : Option Addr) (ls0 : List (List (List Int × Int))) (c0 : Nat) (t0 : Int) (a1 : Option Addr) (ls1 : List (List (List Int × Int))) (c1 : Nat) (t1 : Int) (w : World) (hr0 : ReadsL w a0 ls0) (hm0 : ∀ l ∈ ls0, l.length ≤ maxLen ∧ ∀ y ∈ l, y.1.length ≤ maxLen ∧ (∀ z ∈ y.1, grid.Fits z) ∧ grid.Fits y.2) (hl0 : ls0.length ≤ maxLen) (hb0 : grid.Fits t0) (hr1 : ReadsL w a1 ls1) (hm1 : ∀ l ∈ ls1, l.length ≤ maxLen ∧ ∀ y ∈ l, y.1.length ≤ maxLen ∧ (∀ z ∈ y.1, grid.Fits z) ∧ grid.Fits y.2) (hl1 : ls1.length ≤ maxLen) (hb1 : grid.Fits t1) :
    Calls Try.prog 6 #[.agg #[.int .i64 t0, .slice a0 ls0.length c0], .agg #[.int .i64 t1, .slice a1 ls1.length c1]] w fun e w' => e = .returned (.bool true) ∧ Below w.heap.size w w' := by
  unfold maxLen at hl0 hl1 hm0 hm1
  by_cases hs : (ls0.length : Int) + (totL ls0 : Int) + (ls1.length : Int) + (totL ls1 : Int) ≤ 1048576
  · have hs0 := hs
    by_cases h3 : netp.netB t0 ls0 = true ∧ netp.netB t1 ls1 = true ∧ t0 = t1 ∧ ls0.length = ls1.length
    · cases hf : widp.fitJ ls0 ls1
      · exact fnExactJoinNetsw.law_small a0 ls0 c0 t0 a1 ls1 c1 t1 [] 0 false w hr0 hr1 hs0 (by simp [totL]) (Lib.hid fun _ _ _ _ w h0 h1 => joins.spec_jn_out _ ls0 _ t0 _ ls1 _ t1 w h0 h1 (by omega) (by omega) (fun s hs => by have h9 := len_le_totL ls0 s hs; exact ⟨by omega, fun y hy => by have := planesfns.len_le_totJ s y hy; omega⟩) (fun s hs => by have h9 := len_le_totL ls1 s hs; exact ⟨by omega, fun y hy => by have := planesfns.len_le_totJ s y hy; omega⟩) ⟨h3.1, h3.2.1, h3.2.2.1, h3.2.2.2, hf⟩) (Lib.hid fun _ _ _ _ w h0 h1 => joini.impl_jn_out _ ls0 _ t0 _ ls1 _ t1 w h0 h1 (by omega) (by omega) (fun s hs => by have h9 := len_le_totL ls0 s hs; exact ⟨by omega, fun y hy => by have := planesfns.len_le_totJ s y hy; omega⟩) (fun s hs => by have h9 := len_le_totL ls1 s hs; exact ⟨by omega, fun y hy => by have := planesfns.len_le_totJ s y hy; omega⟩) ⟨h3.1, h3.2.1, h3.2.2.1, h3.2.2.2, hf⟩)
      · exact fnExactJoinNetsw.law_small a0 ls0 c0 t0 a1 ls1 c1 t1 (widp.jnT ls0 ls1 ls0.length) t0 true w hr0 hr1 hs0 (by have := jn_tot h3.1 (h3.2.2.1 ▸ h3.2.1) h3.2.2.2; omega) (Lib.hid fun _ _ _ _ w h0 h1 => joins.spec_jn_yes _ ls0 _ t0 _ ls1 _ t1 w h0 h1 (by omega) (by omega) (fun s hs => by have h9 := len_le_totL ls0 s hs; exact ⟨by omega, fun y hy => by have := planesfns.len_le_totJ s y hy; omega⟩) (fun s hs => by have h9 := len_le_totL ls1 s hs; exact ⟨by omega, fun y hy => by have := planesfns.len_le_totJ s y hy; omega⟩) ⟨h3.1, h3.2.1, h3.2.2.1, h3.2.2.2, hf⟩) (Lib.hid fun _ _ _ _ w h0 h1 => joini.impl_jn_yes _ ls0 _ t0 _ ls1 _ t1 w h0 h1 (by omega) (by omega) (fun s hs => by have h9 := len_le_totL ls0 s hs; exact ⟨by omega, fun y hy => by have := planesfns.len_le_totJ s y hy; omega⟩) (fun s hs => by have h9 := len_le_totL ls1 s hs; exact ⟨by omega, fun y hy => by have := planesfns.len_le_totJ s y hy; omega⟩) ⟨h3.1, h3.2.1, h3.2.2.1, h3.2.2.2, hf⟩)
    · have h5 : netp.netB t0 ls0 = false ∨ netp.netB t1 ls1 = false ∨ ¬ t0 = t1 ∨ ¬ ls0.length = ls1.length := by
        cases e0 : netp.netB t0 ls0
        · exact .inl rfl
        · cases e1 : netp.netB t1 ls1
          · exact .inr (.inl rfl)
          · by_cases e2 : t0 = t1
            · exact .inr (.inr (.inr (fun e => h3 ⟨e0, e1, e2, e⟩)))
            · exact .inr (.inr (.inl e2))
      exact fnExactJoinNetsw.law_small a0 ls0 c0 t0 a1 ls1 c1 t1 [] 0 false w hr0 hr1 hs0 (by simp [totL]) (Lib.hid fun _ _ _ _ w h0 h1 => joins.spec_jn_no _ ls0 _ t0 _ ls1 _ t1 w h0 h1 (by omega) (by omega) (fun s hs => by have h9 := len_le_totL ls0 s hs; exact ⟨by omega, fun y hy => by have := planesfns.len_le_totJ s y hy; omega⟩) (fun s hs => by have h9 := len_le_totL ls1 s hs; exact ⟨by omega, fun y hy => by have := planesfns.len_le_totJ s y hy; omega⟩) h5) (Lib.hid fun _ _ _ _ w h0 h1 => joini.impl_jn_no _ ls0 _ t0 _ ls1 _ t1 w h0 h1 (by omega) (by omega) (fun s hs => by have h9 := len_le_totL ls0 s hs; exact ⟨by omega, fun y hy => by have := planesfns.len_le_totJ s y hy; omega⟩) (fun s hs => by have h9 := len_le_totL ls1 s hs; exact ⟨by omega, fun y hy => by have := planesfns.len_le_totJ s y hy; omega⟩) h5)
  · exact fnExactJoinNetsw.law_big a0 ls0 c0 t0 a1 ls1 c1 t1 w hr0 hr1 hl0 (fun s hs => ⟨(hm0 s hs).1, fun y hy => ((hm0 s hs).2 y hy).1⟩) hl1 (fun s hs => ⟨(hm1 s hs).1, fun y hy => ((hm1 s hs).2 y hy).1⟩) hs
end Go.Proofs.Ytkbcofgigfnfaab.fnExactJoinNetsl
