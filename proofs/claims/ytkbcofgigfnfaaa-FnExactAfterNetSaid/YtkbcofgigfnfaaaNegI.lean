/- The program's copies of layers, and its NegateNet. -/
import Derived.Test.YtkbcofgigfnfaaaNegS
import Derived.Test.YtkbcofgigfnfaaaWide
import Derived.BigQuiet
namespace Go.Proofs.Ytkbcofgigfnfaaa.negi
open Go.RowKit own pp nums planes minus netp netb ownnet negp negs
set_option linter.unusedVariables false
set_option linter.unusedSimpArgs false

/-- One list more, which a call has made meanwhile. -/
theorem OwnLK.push {lo : Nat} {W W1 W2 : World} {v v' c : Value} {ls : List (List (List Int × Int))} {vs : List Value} {css : List (List Value)} {ps : List (List Int × Int)} {cs : List Value} (h : OwnLK lo W.heap.size W v ls vs css) (hB : Below W.heap.size W W1) (hlo : lo ≤ W.heap.size)
    (hc : OwnK W.heap.size W1.heap.size W1 c ps cs) (hrow : W2.ownsRow lo 100 1 v' (ls.length + 1) (vs ++ [c])) (hg : W1.grownBy W2 v.ownBlock) : OwnLK lo W2.heap.size W2 v' (ls ++ [ps]) (vs ++ [c]) (css ++ [cs]) := by
  obtain ⟨h1, h2, h3⟩ := h
  have hsn := (h3.below hB).snoc hc hlo hB.size
  refine ⟨by simpa using hrow, fun g e => (hrow.lt g e).2, (hsn.keep fun g hf => ?_).mono (Nat.le_refl _) hg.size⟩
  obtain ⟨i, hi, hb⟩ := hf
  have h16 := ownsRow_block (w' := W1) h1 (fun g' hg' => hB.block g' (h1.lt g' hg').2)
  exact hg.block g ((hsn.2.2.1 i hi).foot hb).2.2 (fun e => (hsn.2.2.1 i hi).apart h16 e.symm hb)
set_option maxRecDepth 100000 in
set_option maxHeartbeats 1600000 in
theorem impl_copies (a : Option Addr) (ls : List (List (List Int × Int))) (c : Nat) (w : World) (hr : ReadsL w a ls) (hn : ls.length ≤ 1000) (hm : ∀ k, k < ls.length → (ls.getD k []).length ≤ 1000 ∧ ∀ j, j < (ls.getD k []).length → 1 ≤ ((ls.getD k []).getD j ([], 0)).1.length ∧ ((ls.getD k []).getD j ([], 0)).1.length ≤ 100) :
    Calls Try.prog 111 #[.slice a ls.length c] w (fun e w' => ∃ p q vs css, e = .returned (.slice p ls.length q) ∧ OwnLK w.heap.size w'.heap.size w' (.slice p ls.length q) ls vs css ∧ Below w.heap.size w w') := by
  obtain ⟨j0, hj, hjz0, hjz1, hjz2⟩ := info_parts infoJ
  have Hhr := Lib.hid hr
  have HM := Lib.hid hm
  clear hr hm
  go_enter Try.func111, Try.ntmps111
  have hown0 := World.ownsRow_made (base := w.heap.size) (e := 100) (size := 1) w #[] 0 (Nat.le_refl _) (by unfold maxLen; omega) rfl
  have hol0 : OwnLK w.heap.size (w.alloc (.cells #[] 100)).heap.size (w.alloc (.cells #[] 100)) (.slice (some ⟨w.heap.size, 0, none⟩) 0 0) [] [] [] := ⟨hown0, fun g e => (hown0.lt g e).2, LaysOf.nil _ _ _⟩
  have hb0 := below_alloc w (.cells #[] 100)
  clear hown0
  go_wp2_with fail
  go_loopw [3, 9] (fun v i wr => ∃ (k : Nat) (vs : List Value) (css : List (List Value)), k ≤ ls.length ∧ i = .int .i64 k ∧ OwnLK w.heap.size wr.heap.size wr v (ls.take k) vs css ∧ Below w.heap.size w wr) (fun _ i _ => ls.length - (intOf i).toNat)
  case atStart => exact ⟨0, [], [], Nat.zero_le _, rfl, hol0, hb0⟩
  case round =>
    obtain ⟨k, vs, css, hk9, rfl, hown, hbel⟩ := hrel
    have hsz := hbel.size
    have HO := Lib.hid hown
    have HBl := Lib.hid hbel
    clear hol0 hb0
    by_cases hlt : k < ls.length
    · obtain ⟨g, go, pj, pqj, rfl, hgl, kj, _, hlay⟩ := (Hhr.out.below hbel).at hlt
      have HW := Lib.hid (wide.impl_wide pj (ls.getD k []) pqj wr hlay (HM.out k hlt).1 (HM.out k hlt).2)
      have HTK := Lib.hid (take_snocL ls k hlt)
      have HTJ := Lib.hid (show (ls.take k).length = k by rw [List.length_take]; omega)
      clear hown hbel hlay
      generalize ls.getD k [] = l at *
      go_wp2_with fail
      refine HW.out.mono ?_
      rintro e w2 ⟨p5, q5, cs5, rfl, ho5, hb5⟩
      have hs5 := hb5.size
      have HB3 := Lib.hid (below_alloc w2 (.cells #[.slice p5 l.length q5] 100))
      have hs3 := HB3.out.size
      have HX3 := Lib.hid (hb5.trans (HB3.out.mono hs5))
      have hvb := fun g (e : u3.ownBlock = some g) => HO.out.1.lt g e
      have hro := ownsRow_block (w' := w2.alloc (.cells #[.slice p5 l.length q5] 100)) HO.out.1 (fun g hg => HX3.out.block g (hvb g hg).2)
      rw [HTJ.out] at hro
      have HRO := Lib.hid hro
      have HOC := Lib.hid ((ho5.keep (w' := w2.alloc (.cells #[.slice p5 l.length q5] 100)) (fun g hf => Below.heap_alloc _ _ _ (ho5.foot hf).2.2)).widen (Nat.le_refl _) hs3)
      have HVB := Lib.hid hvb
      clear hro hvb ho5 hb5 kj
      go_wp2_with (at_builtin; refine wpList_append_own _ rfl _ _ 63 rfl w.heap.size 100 j0 (.slice none 0 0) 1 24 Try.underlying63 hj hjz0 hjz1 hjz2 rfl (by decide) _ _ _ rfl HRO.out ⟨w2.heap.size, 0, none⟩ 1 1 [.slice p5 l.length q5] rfl rfl (cell_one_new _ _ _) (by simp [Value.oneCell']) (by unfold maxLen; omega) (by omega) (by simp; omega) ?_; intro v' w5 hown' hgrow _)
      have HPU := Lib.hid (OwnLK.push HO.out HX3.out (by omega) HOC.out (by rw [HTJ.out]; exact hown') hgrow)
      have HB5 := Lib.hid (show Below w.heap.size w w5 from (HBl.out.trans (HX3.out.mono hsz)).grown hgrow (by omega) (fun g e => (HVB.out g e).1))
      clear hown' hgrow
      go_wp2_with fail
      go_roundw
      case rel => exact ⟨k + 1, _, _, by omega, by go_num, by rw [HTK.out]; exact HPU.out, HB5.out⟩
      case measure => simp [intOf]; omega
    · obtain rfl : k = ls.length := by omega
      have hoj := hown
      rw [List.take_length] at hoj
      obtain ⟨pn, qn, hvn, _, _, _⟩ := (show OwnL w.heap.size wr.heap.size wr u3 ls from ⟨_, _, hoj⟩).slice
      subst hvn
      have HF := Lib.hid hoj
      clear hown hbel hoj HO
      go_wp2_with fail
      go_ret
      exact ⟨pn, qn, vs, css, rfl, HF.out, HBl.out⟩
end Go.Proofs.Ytkbcofgigfnfaaa.negi
