/- The program's copies of layers, and its NegateNet. -/
import Derived.Test.YtoephhhofkmgjaaNegS
import Derived.Test.YtoephhhofkmgjaaWide
import Derived.BigQuiet
namespace Go.Proofs.Ytoephhhofkmgjaa.negi
open Go.RowKit own pp nums planes minus netp netb ownnet negp negs
set_option linter.unusedVariables false
set_option linter.unusedSimpArgs false

/-- One list more, which a call has made meanwhile. -/
theorem OwnLK.push {lo : Nat} {W W1 W2 : World} {v v' c : Value} {ls : List (List (List Int × Int))} {vs : List Value} {css : List (List Value)} {ps : List (List Int × Int)} {cs : List Value} (h : OwnLK lo W.heap.size W v ls vs css) (hB : Below W.heap.size W W1) (hlo : lo ≤ W.heap.size)
    (hc : OwnK W.heap.size W1.heap.size W1 c ps cs) (hrow : W2.ownsRow lo 63 1 v' (ls.length + 1) (vs ++ [c])) (hg : W1.grownBy W2 v.ownBlock) : OwnLK lo W2.heap.size W2 v' (ls ++ [ps]) (vs ++ [c]) (css ++ [cs]) := by
  obtain ⟨h1, h2, h3⟩ := h
  have hsn := (h3.below hB).snoc hc hlo hB.size
  refine ⟨by simpa using hrow, fun g e => (hrow.lt g e).2, (hsn.keep fun g hf => ?_).mono (Nat.le_refl _) hg.size⟩
  obtain ⟨i, hi, hb⟩ := hf
  have h16 := ownsRow_block (w' := W1) h1 (fun g' hg' => hB.block g' (h1.lt g' hg').2)
  exact hg.block g ((hsn.2.2.1 i hi).foot hb).2.2 (fun e => (hsn.2.2.1 i hi).apart h16 e.symm hb)
set_option maxRecDepth 100000 in
set_option maxHeartbeats 1600000 in
theorem impl_copies (a : Option Addr) (ls : List (List (List Int × Int))) (c : Nat) (w : World) (hr : ReadsL w a ls) (hn : ls.length ≤ 1000) (hm : ∀ k, k < ls.length → (ls.getD k []).length ≤ 1000 ∧ ∀ j, j < (ls.getD k []).length → 1 ≤ ((ls.getD k []).getD j ([], 0)).1.length ∧ ((ls.getD k []).getD j ([], 0)).1.length ≤ 100) :
    Calls Try.prog 85 #[.slice a ls.length c] w (fun e w' => ∃ p q vs css, e = .returned (.slice p ls.length q) ∧ OwnLK w.heap.size w'.heap.size w' (.slice p ls.length q) ls vs css ∧ Below w.heap.size w w') := by
  obtain ⟨j0, hj, hjz0, hjz1, hjz2⟩ := info_parts infoJ
  have Hhr := Lib.hid hr
  have HM := Lib.hid hm
  clear hr hm
  go_enter Try.func85, Try.ntmps85
  have hown0 := World.ownsRow_made (base := w.heap.size) (e := 63) (size := 1) w #[] 0 (Nat.le_refl _) (by unfold maxLen; omega) rfl
  have hol0 : OwnLK w.heap.size (w.alloc (.cells #[] 63)).heap.size (w.alloc (.cells #[] 63)) (.slice (some ⟨w.heap.size, 0, none⟩) 0 0) [] [] [] := ⟨hown0, fun g e => (hown0.lt g e).2, LaysOf.nil _ _ _⟩
  have hb0 := below_alloc w (.cells #[] 63)
  clear hown0
  go_wp2_with fail
  go_loopw [3, 9] (fun v i wr => ∃ (k : Nat) (vs : List Value) (css : List (List Value)), k ≤ ls.length ∧ i = .int .i64 k ∧ OwnLK w.heap.size wr.heap.size wr v (ls.take k) vs css ∧ Below w.heap.size w wr) (fun _ i _ => ls.length - (intOf i).toNat)
  case atStart => exact ⟨0, [], [], Nat.zero_le _, rfl, hol0, hb0⟩
  case round =>
    obtain ⟨k, vs, css, hk9, rfl, hown, hbel⟩ := hrel
    have hsz := hbel.size
    have HO := Lib.hid hown
    have HBl := Lib.hid hbel
    clear hol0 hb0
    by_cases hlt : k < ls.length
    · obtain ⟨g, go, pj, pqj, rfl, hgl, kj, _, hlay⟩ := (Hhr.out.below hbel).at hlt
      have HW := Lib.hid (wide.impl_wide pj (ls.getD k []) pqj wr hlay (HM.out k hlt).1 (HM.out k hlt).2)
      have HTK := Lib.hid (take_snocL ls k hlt)
      have HTJ := Lib.hid (show (ls.take k).length = k by rw [List.length_take]; omega)
      clear hown hbel hlay
      generalize ls.getD k [] = l at *
      go_wp2_with fail
      refine HW.out.mono ?_
      rintro e w2 ⟨p5, q5, cs5, rfl, ho5, hb5⟩
      have hs5 := hb5.size
      have HB3 := Lib.hid (below_alloc w2 (.cells #[.slice p5 l.length q5] 63))
      have hs3 := HB3.out.size
      have HX3 := Lib.hid (hb5.trans (HB3.out.mono hs5))
      have hvb := fun g (e : u3.ownBlock = some g) => HO.out.1.lt g e
      have hro := ownsRow_block (w' := w2.alloc (.cells #[.slice p5 l.length q5] 63)) HO.out.1 (fun g hg => HX3.out.block g (hvb g hg).2)
      rw [HTJ.out] at hro
      have HRO := Lib.hid hro
      have HOC := Lib.hid ((ho5.keep (w' := w2.alloc (.cells #[.slice p5 l.length q5] 63)) (fun g hf => Below.heap_alloc _ _ _ (ho5.foot hf).2.2)).widen (Nat.le_refl _) hs3)
      have HVB := Lib.hid hvb
      clear hro hvb ho5 hb5 kj
      go_wp2_with (at_builtin; refine wpList_append_own _ rfl _ _ 27 rfl w.heap.size 63 j0 (.slice none 0 0) 1 24 Try.underlying27 hj hjz0 hjz1 hjz2 rfl (by decide) _ _ _ rfl HRO.out ⟨w2.heap.size, 0, none⟩ 1 1 [.slice p5 l.length q5] rfl rfl (cell_one_new _ _ _) (by simp [Value.oneCell']) (by unfold maxLen; omega) (by omega) (by simp; omega) ?_; intro v' w5 hown' hgrow _)
      have HPU := Lib.hid (OwnLK.push HO.out HX3.out (by omega) HOC.out (by rw [HTJ.out]; exact hown') hgrow)
      have HB5 := Lib.hid (show Below w.heap.size w w5 from (HBl.out.trans (HX3.out.mono hsz)).grown hgrow (by omega) (fun g e => (HVB.out g e).1))
      clear hown' hgrow
      go_wp2_with fail
      go_roundw
      case rel => exact ⟨k + 1, _, _, by omega, by go_num, by rw [HTK.out]; exact HPU.out, HB5.out⟩
      case measure => simp [intOf]; omega
    · obtain rfl : k = ls.length := by omega
      have hoj := hown
      rw [List.take_length] at hoj
      obtain ⟨pn, qn, hvn, _, _, _⟩ := (show OwnL w.heap.size wr.heap.size wr u3 ls from ⟨_, _, hoj⟩).slice
      subst hvn
      have HF := Lib.hid hoj
      clear hown hbel hoj HO
      go_wp2_with fail
      go_ret
      exact ⟨pn, qn, vs, css, rfl, HF.out, HBl.out⟩
theorem impl_turn (a : Option Addr) (zs : List Int) (c : Nat) (b : Int) (w : World) (hr : ints.Reads .i64 w a zs) (hn : zs.length ≤ 1048576) :
    Calls Try.prog 86 #[.agg #[.slice a zs.length c, .int .i64 b]] w (RetPB (if tnB (zs, b) then neg zs else []) (if tnB (zs, b) then 1 - b else 0) (tnB (zs, b)) w) := by
  cases h1 : planeB zs b
  · rw [show tnB (zs, b) = false by simp [tnB, h1]]; exact turnplane.impl_no a zs c b w hr hn (Lib.hid h1)
  cases h2 : planeB (neg zs) (1 - b)
  · rw [show tnB (zs, b) = false by simp [tnB, h2]]; exact turnplane.impl_out a zs c b w hr hn (Lib.hid h1) (Lib.hid h2)
  · rw [show tnB (zs, b) = true by simp [tnB, h1, h2]]; exact turnplane.impl_yes a zs c b w hr hn (Lib.hid h1) (Lib.hid h2)
set_option maxRecDepth 100000 in
set_option maxHeartbeats 1600000 in
theorem impl_neg_no (a : Option Addr) (ls : List (List (List Int × Int))) (c : Nat) (n : Int) (w : World) (hr : ReadsL w a ls) (hn : ls.length ≤ 1048576) (hm : ∀ x ∈ ls, x.length ≤ 1048576 ∧ ∀ y ∈ x, y.1.length ≤ 1048576) (hk : netB n ls = false) :
    Calls Try.prog 44 #[.agg #[.int .i64 n, .slice a ls.length c]] w (RetTB [] 0 false w) := by
  have Hhr := Lib.hid hr
  have Hhm := Lib.hid hm
  clear hr hm
  have HK := Lib.hid hk
  clear hk
  go_enter Try.func44, Try.ntmps44
  obtain ⟨wb1, hw1⟩ : ∃ wb1 : World, wb1 = w.alloc (.cells #[.int .i64 n, .slice a ls.length c] 29) := ⟨_, rfl⟩
  obtain ⟨wb2, hw2⟩ : ∃ wb2 : World, wb2 = wb1.alloc (.cells #[.int .i64 0, .slice none 0 0] 29) := ⟨_, rfl⟩
  have z1 : wb1.heap.size = w.heap.size + 1 := by rw [hw1]; simp
  have z2 : wb2.heap.size = w.heap.size + 2 := by rw [hw2]; simp; omega
  have x0_0 := (by rw [hw2]; exact cell_old _ (by rw [hw1]; exact cell_new _ _ _ rfl rfl : wb1.cell? ⟨w.heap.size, 0, none⟩ = some (.int .i64 n)) : wb2.cell? ⟨w.heap.size, 0, none⟩ = some (.int .i64 n))
  have x0_1 := (by rw [hw2]; exact cell_old _ (by rw [hw1]; exact cell_new _ _ _ rfl rfl : wb1.cell? ⟨w.heap.size, 1, none⟩ = some (.slice a ls.length c)) : wb2.cell? ⟨w.heap.size, 1, none⟩ = some (.slice a ls.length c))
  have x1_0 := (by rw [hw2]; exact cell_new _ _ _ z1.symm rfl : wb2.cell? ⟨w.heap.size + 1, 0, none⟩ = some (.int .i64 0))
  have x1_1 := (by rw [hw2]; exact cell_new _ _ _ z1.symm rfl : wb2.cell? ⟨w.heap.size + 1, 1, none⟩ = some (.slice none 0 0))
  have HB0 := Lib.hid (show Below w.heap.size w wb2 by rw [hw2]; exact (show Below w.heap.size w wb1 by rw [hw1]; exact (Below.refl w.heap.size w).alloc (Nat.le_refl _) _).alloc (by omega) _)
  have s2 : w.heap.size + 2 ≤ wb2.heap.size := by omega
  have f1_0 := (by rw [hw2]; exact fro_new _ _ _ z1.symm : wb2.frozen? ⟨w.heap.size + 1, 0, none⟩ = false)
  have f1_1 := (by rw [hw2]; exact fro_new _ _ _ z1.symm : wb2.frozen? ⟨w.heap.size + 1, 1, none⟩ = false)
  have HZ2 := Lib.hid z2
  clear z1 z2
  go_wp2_with fail
  rw [← hw1, ← hw2]
  clear hw1 hw2
  refine (impl_net a ls c n wb2 (Hhr.out.below HB0.out) hn Hhm.out false HK).mono ?_
  rintro e w2 ⟨rfl, hb⟩
  replace x1_0 := cell_below hb x1_0 (by omega)
  replace x1_1 := cell_below hb x1_1 (by omega)
  replace f1_0 := fro_below hb f1_0 (by omega)
  replace f1_1 := fro_below hb f1_1 (by omega)
  have HB2 := Lib.hid (HB0.out.trans (hb.mono (by omega)))
  clear hb
  go_wp2_with fail
  refine bodyPost_ret (v := .tuple #[.agg #[.int .i64 0, .slice none 0 0], .bool false]) (by simp [results, Try.results44, go_sem, x1_0, x1_1, f1_0, f1_1]) rfl ⟨_, rfl, ?_, ?_⟩
  · exact OwnL.nil _ _ _
  · exact (HB2.out.setCell (by simp) _).setCell (by simp) _
set_option maxRecDepth 100000 in
set_option maxHeartbeats 1600000 in
theorem impl_neg_net (a : Option Addr) (ls : List (List (List Int × Int))) (c : Nat) (n : Int) (w : World) (hr : ReadsL w a ls) (hn : ls.length ≤ 1048576) (hm : ∀ x ∈ ls, x.length ≤ 1048576 ∧ ∀ y ∈ x, y.1.length ≤ 1048576) (hk : netB n ls = true) (R : List (List (List Int × Int))) (nn : Int) (ok : Bool) (HR : Hid ((negB n ls = true ∧ R = negL ls ∧ nn = n ∧ ok = true) ∨ (negB n ls = false ∧ R = [] ∧ nn = 0 ∧ ok = false))) :
    Calls Try.prog 44 #[.agg #[.int .i64 n, .slice a ls.length c]] w (RetTB R nn ok w) := by
  have Hhr := Lib.hid hr
  have Hhm := Lib.hid hm
  clear hr hm
  have HK := Lib.hid hk
  have h6 := net_len hk
  have hl4 := net_lay hk (ls.length - 1) (by omega)
  obtain ⟨L, hL⟩ : ∃ L, ls.length = L + 1 := ⟨ls.length - 1, by omega⟩
  have hL5 : L ≤ 5 := by omega
  have hmL : L < ls.length := by omega
  have HNB := Lib.hid (show negB n ls = (ls.getD L []).all tnB by unfold negB; rw [hk, Bool.true_and, hL, Nat.add_sub_cancel])
  have HNL := Lib.hid (show negL ls = ls.set L ((ls.getD L []).map tn) by unfold negL; rw [hL, Nat.add_sub_cancel])
  rw [show ls.length - 1 = L by omega] at hl4
  have HCB := Lib.hid (show ∀ k, k < ls.length → (ls.getD k []).length ≤ 1000 ∧ ∀ j, j < (ls.getD k []).length → 1 ≤ ((ls.getD k []).getD j ([], 0)).1.length ∧ ((ls.getD k []).getD j ([], 0)).1.length ≤ 100 from fun k hk9 => ⟨by have := net_lay HK.out k hk9; omega, fun j hj => by
    have h8 := (gateB_iff _ _).1 (net_gate HK.out k hk9 j hj)
    have h9 := (planeB_iff _ _).1 h8.1
    omega⟩)
  have HGD := Lib.hid (fun (W : World) (hB : Below w.heap.size w W) => impl_net a ls c n W (Hhr.out.below hB) hn Hhm.out true HK)
  have HCN := Lib.hid (fun (W : World) (hB : Below w.heap.size w W) => impl_copies a ls c W (Hhr.out.below hB) (by omega) HCB.out)
  have HLm := Lib.hid (Hhm.out (ls.getD L []) (by rw [List.getD_eq_getElem?_getD, List.getElem?_eq_getElem hmL]; exact List.getElem_mem hmL))
  have HLL := Lib.hid hL
  have HmL := Lib.hid hmL
  clear hk h6 hL hmL
  go_enter Try.func44, Try.ntmps44
  obtain ⟨wb1, hw1⟩ : ∃ wb1 : World, wb1 = w.alloc (.cells #[.int .i64 n, .slice a ls.length c] 29) := ⟨_, rfl⟩
  obtain ⟨wb2, hw2⟩ : ∃ wb2 : World, wb2 = wb1.alloc (.cells #[.int .i64 0, .slice none 0 0] 29) := ⟨_, rfl⟩
  have z1 : wb1.heap.size = w.heap.size + 1 := by rw [hw1]; simp
  have z2 : wb2.heap.size = w.heap.size + 2 := by rw [hw2]; simp; omega
  have x0_0 := (by rw [hw2]; exact cell_old _ (by rw [hw1]; exact cell_new _ _ _ rfl rfl : wb1.cell? ⟨w.heap.size, 0, none⟩ = some (.int .i64 n)) : wb2.cell? ⟨w.heap.size, 0, none⟩ = some (.int .i64 n))
  have x0_1 := (by rw [hw2]; exact cell_old _ (by rw [hw1]; exact cell_new _ _ _ rfl rfl : wb1.cell? ⟨w.heap.size, 1, none⟩ = some (.slice a ls.length c)) : wb2.cell? ⟨w.heap.size, 1, none⟩ = some (.slice a ls.length c))
  have x1_0 := (by rw [hw2]; exact cell_new _ _ _ z1.symm rfl : wb2.cell? ⟨w.heap.size + 1, 0, none⟩ = some (.int .i64 0))
  have x1_1 := (by rw [hw2]; exact cell_new _ _ _ z1.symm rfl : wb2.cell? ⟨w.heap.size + 1, 1, none⟩ = some (.slice none 0 0))
  have HB0 := Lib.hid (show Below w.heap.size w wb2 by rw [hw2]; exact (show Below w.heap.size w wb1 by rw [hw1]; exact (Below.refl w.heap.size w).alloc (Nat.le_refl _) _).alloc (by omega) _)
  have s2 : w.heap.size + 2 ≤ wb2.heap.size := by omega
  have f1_0 := (by rw [hw2]; exact fro_new _ _ _ z1.symm : wb2.frozen? ⟨w.heap.size + 1, 0, none⟩ = false)
  have f1_1 := (by rw [hw2]; exact fro_new _ _ _ z1.symm : wb2.frozen? ⟨w.heap.size + 1, 1, none⟩ = false)
  have HZ2 := Lib.hid z2
  clear z1 z2
  go_wp2_with fail
  rw [← hw1, ← hw2]
  clear hw1 hw2
  refine (HGD.out wb2 HB0.out).mono ?_
  rintro e w2 ⟨rfl, hb⟩
  replace x1_0 := cell_below hb x1_0 (by omega)
  replace x1_1 := cell_below hb x1_1 (by omega)
  replace f1_0 := fro_below hb f1_0 (by omega)
  replace f1_1 := fro_below hb f1_1 (by omega)
  have s2' := hb.size
  have HB2 := Lib.hid (HB0.out.trans (hb.mono (by omega)))
  replace x0_0 := cell_below hb x0_0 (by omega)
  replace x0_1 := cell_below hb x0_1 (by omega)
  clear hb
  go_wp2_with fail
  refine (HCN.out w2 HB2.out).mono ?_
  rintro e w3 ⟨pv, qv, vs, css0, rfl, hol, hb3⟩
  have hs3 := hb3.size
  replace x1_0 := cell_below hb3 x1_0 (by omega)
  replace x1_1 := cell_below hb3 x1_1 (by omega)
  replace f1_0 := fro_below hb3 f1_0 (by omega)
  replace f1_1 := fro_below hb3 f1_1 (by omega)
  have HB3 := Lib.hid (HB2.out.trans (hb3.mono (by omega)))
  rw [HLL.out] at hol ⊢
  obtain ⟨gv, cap, hfv, _, _⟩ := hol.1.form (by have := HLL.out; omega)
  obtain ⟨rfl, rfl⟩ : pv = some ⟨gv, 0, none⟩ ∧ qv = cap := by simp at hfv; exact ⟨hfv.1, hfv.2.2⟩
  clear hfv
  obtain ⟨l, hl⟩ : ∃ l, ls.getD L [] = l := ⟨_, rfl⟩
  have hok0 := lay_get (m := L) (ps := l) (by rw [← hl, set_getD_self ls L HmL.out]; exact hol) HmL.out
  rw [hl] at hl4 HNB HNL HLm
  obtain ⟨gl, ql, hfl, _, _⟩ := hok0.1.form (by omega)
  have hcv : w3.cell? ⟨gv, L, none⟩ = some (.slice (some ⟨gl, 0, none⟩) l.length ql) := by
    have hvl : vs.length = L + 1 := by have := hol.2.2.1; rw [this, HLL.out]
    have h91 := hol.1
    rw [HLL.out] at h91
    rw [h91.cellAt L (by omega), List.getElem?_eq_getElem (by omega)]
    rw [List.getD_eq_getElem?_getD, List.getElem?_eq_getElem (by omega), Option.getD_some] at hfl
    rw [hfl]
  have HVS := Lib.hid hfl
  have HO3 := Lib.hid (show OwnLK w2.heap.size w3.heap.size w3 (.slice (some ⟨gv, 0, none⟩) (L + 1) qv) (ls.set L (tnsTo l 0)) vs css0 by rw [tnsTo_zero, ← hl, set_getD_self ls L HmL.out]; have h9 := hol; rw [← HLL.out] at h9; rw [← HLL.out]; exact h9)
  have hgl3 := (hok0.1.lt gl (by rw [hfl]; rfl)).2
  have hl9 := hl4.2
  have hl1 := hl4.1
  have HLM := Lib.hid HLm.out.2
  replace x0_0 := cell_below hb3 x0_0 (by omega)
  clear hol hb3 hok0 hl hfl HLm HGD HCN Hhr Hhm HK HCB hl4 x0_1
  have hgl2 : w2.heap.size ≤ gl := by have := (lay_get HO3.out HmL.out).1.lt gl (by rw [HVS.out]; rfl); omega
  have HX3 := Lib.hid (show w3.cell? ⟨w.heap.size + 1, 0, none⟩ = some (.int .i64 0) ∧ w3.cell? ⟨w.heap.size + 1, 1, none⟩ = some (.slice none 0 0) ∧ w3.frozen? ⟨w.heap.size + 1, 0, none⟩ = false ∧ w3.frozen? ⟨w.heap.size + 1, 1, none⟩ = false ∧ w3.cell? ⟨w.heap.size, 0, none⟩ = some (.int .i64 n) from ⟨x1_0, x1_1, f1_0, f1_1, x0_0⟩)
  go_wp2_with fail
  clear hgl3 x1_0 x1_1 f1_0 f1_1 x0_0 hcv
  go_loopw [25] (fun i wr => ∃ (k : Nat) (css : List (List Value)), k ≤ l.length ∧ i = .int .i64 k ∧ Hid (OwnLK w2.heap.size wr.heap.size wr (.slice (some ⟨gv, 0, none⟩) (L + 1) qv) (ls.set L (tnsTo l k)) vs css) ∧ Hid (wr.cell? ⟨w.heap.size + 1, 0, none⟩ = some (.int .i64 0) ∧ wr.cell? ⟨w.heap.size + 1, 1, none⟩ = some (.slice none 0 0) ∧ wr.frozen? ⟨w.heap.size + 1, 0, none⟩ = false ∧ wr.frozen? ⟨w.heap.size + 1, 1, none⟩ = false ∧ wr.cell? ⟨w.heap.size, 0, none⟩ = some (.int .i64 n)) ∧ Hid (Below w.heap.size w wr) ∧ gl < wr.heap.size ∧ Hid (∀ j, j < k → tnB (l.getD j ([], 0)) = true)) (fun i _ => l.length - (intOf i).toNat)
  case atStart => exact ⟨0, _, Nat.zero_le _, rfl, HO3, HX3, HB3, (lay_get HO3.out HmL.out).1.lt gl (by rw [HVS.out]; rfl) |>.2, Lib.hid (fun j hj => absurd hj (Nat.not_lt_zero _))⟩
  case round =>
    obtain ⟨k, css, hk9, rfl, HOo, HXe, HBo, hszo, HTo⟩ := hrel
    clear HO3 HX3 HB3
    by_cases hlt : k < l.length
    · have hk0 := lay_get HOo.out HmL.out
      rw [HVS.out] at hk0
      have hr0 := OwnJ.reads (show OwnJ w2.heap.size wr.heap.size wr (.slice (some ⟨gl, 0, none⟩) l.length ql) (tnsTo l k) from ⟨_, hk0⟩)
      obtain ⟨b1, o1, pj, pqj, hab, hglw, kj, dj, _, hrowj⟩ := hr0.at (k := k) (by rw [tnsTo_length]; exact hlt)
      have e1 : b1 = gl ∧ o1 = 0 := by simp at hab; exact ⟨hab.1.symm, hab.2.symm⟩
      rw [e1.1, e1.2, Nat.zero_add, tnsTo_getD l k hlt] at kj dj
      rw [tnsTo_getD l k hlt] at hrowj
      rw [e1.1] at hglw
      have hk1 := hk0.1
      rw [tnsTo_length] at hk1
      have fk0 := hk1.frozenAt (k * 2)
      have fk1 := hk1.frozenAt (k * 2 + 1)
      have hws := HLM.out (l.getD k ([], 0)) (by rw [List.getD_eq_getElem?_getD, List.getElem?_eq_getElem hlt]; exact List.getElem_mem hlt)
      obtain ⟨w1, hw1⟩ : ∃ w1 : World, w1 = wr.alloc (.cells #[.slice pj (l.getD k ([], 0)).1.length pqj, .int .i64 (l.getD k ([], 0)).2] 86) := ⟨_, rfl⟩
      have HW1 := Lib.hid (show Below wr.heap.size wr w1 by rw [hw1]; exact below_alloc _ _)
      have hs1 := HW1.out.size
      have HTn := Lib.hid (impl_turn pj (l.getD k ([], 0)).1 pqj (l.getD k ([], 0)).2 w1 (hrowj.below HW1.out) hws)
      have HTS := Lib.hid (tnsTo_succ l k hlt)
      have i1 : (0 : Int) ≤ (k : Int) := by omega
      have i2 : (k : Int) < (l.length : Int) := by omega
      obtain ⟨x1_0, x1_1, f1_0, f1_1, x0_0⟩ := HXe.out
      clear hk0 hk1 hr0 hab e1 hrowj hws
      cases ht : tnB (l.getD k ([], 0))
      · have HNo := Lib.hid (show negB n ls = false by rw [HNB.out]; exact List.all_eq_false.2 ⟨l.getD k ([], 0), by rw [List.getD_eq_getElem?_getD, List.getElem?_eq_getElem hlt]; exact List.getElem_mem hlt, by rw [ht]; exact Bool.false_ne_true⟩)
        have HTN := Lib.hid (show Calls Try.prog 86 #[.agg #[.slice pj (l.getD k ([], 0)).1.length pqj, .int .i64 (l.getD k ([], 0)).2]] w1 (RetPB [] 0 false w1) by have := HTn.out; rw [show tnB ((l.getD k ([], 0)).1, (l.getD k ([], 0)).2) = false from ht] at this; exact this)
        obtain ⟨rfl, rfl, rfl⟩ : R = [] ∧ nn = 0 ∧ ok = false := by
          rcases HR.out with h9 | h9
          · rw [HNo.out] at h9; exact absurd h9.1 (by simp)
          · exact h9.2
        clear HTn HTS ht HNo HR
        generalize (l.getD k ([], 0)).1 = wsj at *
        generalize (l.getD k ([], 0)).2 = bj at *
        go_wp2_with fail
        rw [← hw1]
        clear hw1
        refine HTN.out.mono ?_
        rintro e w5 ⟨v5, rfl, ho5, hb5⟩
        obtain ⟨p5, q5, rfl, _, _, _⟩ := ho5.slice
        replace ho5 := ho5.mono hs1 (Nat.le_refl _)
        replace hb5 := HW1.out.trans (hb5.mono hs1)
        have hs5 := hb5.size
        have HB5 := Lib.hid (HBo.out.trans (hb5.mono (by have := HBo.out.size; omega)))
        have O7 := below_alloc w5 (.cells #[.slice p5 0 q5, .int .i64 0] 86)
        replace x1_0 := cell_below O7 (cell_below hb5 x1_0 (by omega)) (by omega)
        replace x1_1 := cell_below O7 (cell_below hb5 x1_1 (by omega)) (by omega)
        replace f1_0 := fro_below O7 (fro_below hb5 f1_0 (by omega)) (by omega)
        replace f1_1 := fro_below O7 (fro_below hb5 f1_1 (by omega)) (by omega)
        have HB7 := Lib.hid (HB5.out.trans (O7.mono (by omega)))
        clear hb5 ho5 O7 x0_0 kj dj fk0 fk1
        go_wp2_with fail
        refine bodyPost_ret (v := .tuple #[.agg #[.int .i64 0, .slice none 0 0], .bool false]) (by simp [results, Try.results44, go_sem, x1_0, x1_1, f1_0, f1_1]) rfl ⟨_, rfl, ?_, ?_⟩
        · exact OwnL.nil _ _ _
        · exact (HB7.out.setCell (by simp) _).setCell (by simp) _
      · have HTT := Lib.hid (show Calls Try.prog 86 #[.agg #[.slice pj (l.getD k ([], 0)).1.length pqj, .int .i64 (l.getD k ([], 0)).2]] w1 (RetPB (neg (l.getD k ([], 0)).1) (1 - (l.getD k ([], 0)).2) true w1) by have := HTn.out; rw [show tnB ((l.getD k ([], 0)).1, (l.getD k ([], 0)).2) = true from ht] at this; exact this)
        have HT2 := Lib.hid (show ∀ j, j < k + 1 → tnB (l.getD j ([], 0)) = true from fun j hj => by
          by_cases e : j = k
          · rw [e]; exact ht
          · exact HTo.out j (by omega))
        replace HTS := Lib.hid (show (tnsTo l k).set k (neg (l.getD k ([], 0)).1, 1 - (l.getD k ([], 0)).2) = tnsTo l (k + 1) from HTS.out)
        clear HTn ht HTo
        generalize (l.getD k ([], 0)).1 = wsj at *
        generalize (l.getD k ([], 0)).2 = bj at *
        go_wp2_with fail
        rw [← hw1]
        clear hw1
        refine HTT.out.mono ?_
        rintro e w5 ⟨v5, rfl, ho5, hb5⟩
        obtain ⟨p5, q5, rfl, _, _, _⟩ := ho5.slice
        replace ho5 := ho5.mono hs1 (Nat.le_refl _)
        replace hb5 := HW1.out.trans (hb5.mono hs1)
        have hs5 := hb5.size
        have HB5 := Lib.hid (HBo.out.trans (hb5.mono (by have := HBo.out.size; omega)))
        have O7 := below_alloc w5 (.cells #[.slice p5 (neg wsj).length q5, .int .i64 (1 - bj)] 86)
        have z7 : (w5.alloc (.cells #[.slice p5 (neg wsj).length q5, .int .i64 (1 - bj)] 86)).heap.size = w5.heap.size + 1 := by simp
        have X1 := cell_below O7 (cell_below hb5 x1_0 (by omega)) (by omega)
        have X2 := cell_below O7 (cell_below hb5 x1_1 (by omega)) (by omega)
        have X3 := fro_below O7 (fro_below hb5 f1_0 (by omega)) (by omega)
        have X4 := fro_below O7 (fro_below hb5 f1_1 (by omega)) (by omega)
        have X5 := cell_below O7 (cell_below hb5 x0_0 (by omega)) (by omega)
        replace kj := cell_below O7 (cell_below hb5 kj (by omega)) (by omega)
        replace dj := cell_below O7 (cell_below hb5 dj (by omega)) (by omega)
        replace fk0 := fro_below O7 (fro_below hb5 fk0 (by omega)) (by omega)
        replace fk1 := fro_below O7 (fro_below hb5 fk1 (by omega)) (by omega)
        have HB7 := Lib.hid (HB5.out.trans (O7.mono (by omega)))
        have HO6 := Lib.hid (OwnLK.put (x := (neg wsj, 1 - bj)) HOo.out HmL.out (by rw [tnsTo_length]; exact hlt) (by rw [HVS.out, tnsTo_length]) (hb5.trans (O7.mono hs5)) ((ho5.below O7).mono (Nat.le_refl _) O7.size) (by omega))
        have s7 : gl < (w5.alloc (.cells #[.slice p5 (neg wsj).length q5, .int .i64 (1 - bj)] 86)).heap.size := by omega
        have HX7 := Lib.hid (And.intro X1 (And.intro X2 (And.intro X3 (And.intro X4 X5))))
        clear hb5 ho5 O7 X1 X2 X3 X4 X5 x1_0 x1_1 f1_0 f1_1 x0_0 z7 HXe HOo HBo
        go_wp2_with fail
        go_roundw
        case rel => exact ⟨k + 1, _, by omega, by go_num, by rw [← HTS.out]; exact Lib.hid (by rw [size_set, size_set]; exact HO6.out), Lib.hid ⟨cell_set (cell_set HX7.out.1 (by simp; omega) _) (by simp; omega) _, cell_set (cell_set HX7.out.2.1 (by simp; omega) _) (by simp; omega) _, fro_set (fro_set HX7.out.2.2.1 (by simp; omega) _) (by simp; omega) _, fro_set (fro_set HX7.out.2.2.2.1 (by simp; omega) _) (by simp; omega) _, cell_set (cell_set HX7.out.2.2.2.2 (by simp; omega) _) (by simp; omega) _⟩, Lib.hid ((HB7.out.setCell (by simp; omega) _).setCell (by simp; omega) _), by rw [size_set, size_set]; exact s7, HT2⟩
        case measure => simp [intOf]; omega
    · obtain rfl : k = l.length := by omega
      have hys : negB n ls = true := by
        rw [HNB.out]
        refine List.all_eq_true.2 fun y hy => ?_
        obtain ⟨j, hj, rfl⟩ := List.mem_iff_getElem.1 hy
        have h9 := HTo.out j hj
        rwa [List.getD_eq_getElem?_getD, List.getElem?_eq_getElem hj] at h9
      have HYs := Lib.hid hys
      clear hys
      obtain ⟨rfl, rfl, rfl⟩ : R = negL ls ∧ nn = n ∧ ok = true := by
        rcases HR.out with h9 | h9
        · exact h9.2
        · rw [HYs.out] at h9; exact absurd h9.1 (by simp)
      obtain ⟨x1_0, x1_1, f1_0, f1_1, x0_0⟩ := HXe.out
      have HF := Lib.hid (show OwnLK w2.heap.size wr.heap.size wr (.slice (some ⟨gv, 0, none⟩) (L + 1) qv) (negL ls) vs css by rw [HNL.out, ← tnsTo_all]; exact HOo.out)
      clear HOo HXe HTo HR HYs
      go_wp2_with fail
      refine bodyPost_ret (v := .tuple #[.agg #[.int .i64 nn, (.slice (some ⟨gv, 0, none⟩) (L + 1) qv)], .bool true]) (by simp [results, Try.results44, go_sem, x1_0, x1_1, f1_0, f1_1]) rfl ⟨_, rfl, ?_, ?_⟩
      · simp only [size_set]; exact ⟨vs, css, OwnLK.mono (OwnLK.set (OwnLK.set HF.out (by simp; omega) _) (by simp; omega) _) (by omega) (Nat.le_refl _)⟩
      · exact (HBo.out.setCell (by simp) _).setCell (by simp) _
end Go.Proofs.Ytoephhhofkmgjaa.negi
