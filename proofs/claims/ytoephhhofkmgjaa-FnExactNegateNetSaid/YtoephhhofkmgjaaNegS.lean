/- The model's NegateNet. -/
import Derived.Test.YtoephhhofkmgjaaOwnNet
import Derived.Test.YtoephhhofkmgjaaNegP
import Derived.Test.YtoephhhofkmgjaaTurnPlane
import Derived.BigQuiet
namespace Go.Proofs.Ytoephhhofkmgjaa.negs
open Go.RowKit own pp nums planes minus netp netb ownnet negp
set_option linter.unusedVariables false
set_option linter.unusedSimpArgs false

/-- The other side of a plane, and whether there is one. -/
def tnB (p : List Int × Int) : Bool := planeB p.1 p.2 && planeB (neg p.1) (1 - p.2)
def tn (p : List Int × Int) : List Int × Int := (neg p.1, 1 - p.2)
def tnsTo (l : List (List Int × Int)) (k : Nat) : List (List Int × Int) := (l.take k).map tn ++ l.drop k
theorem tnsTo_zero (l : List (List Int × Int)) : tnsTo l 0 = l := by simp [tnsTo]
theorem tnsTo_all (l : List (List Int × Int)) : tnsTo l l.length = l.map tn := by simp [tnsTo]
theorem tnsTo_length (l : List (List Int × Int)) (k : Nat) : (tnsTo l k).length = l.length := by simp [tnsTo]; omega
theorem tnsTo_getD (l : List (List Int × Int)) (k : Nat) (h : k < l.length) : (tnsTo l k).getD k ([], 0) = l.getD k ([], 0) := by
  unfold tnsTo
  have hl : ((l.take k).map tn).length = k := by rw [List.length_map, List.length_take]; omega
  rw [List.getD_eq_getElem?_getD, List.getElem?_append_right (by omega), hl, Nat.sub_self, List.getElem?_drop, List.getD_eq_getElem?_getD, Nat.add_zero]
theorem tnsTo_succ (l : List (List Int × Int)) (k : Nat) (h : k < l.length) : (tnsTo l k).set k (tn (l.getD k ([], 0))) = tnsTo l (k + 1) := by
  unfold tnsTo
  have hl : ((l.take k).map tn).length = k := by rw [List.length_map, List.length_take]; omega
  rw [List.set_append, if_neg (by omega), hl, Nat.sub_self, take_snocJ l k h, List.map_append, List.append_assoc]
  congr 1
  rw [List.drop_eq_getElem_cons h, List.set_cons_zero]
  rfl
def negB (n : Int) (ls : List (List (List Int × Int))) : Bool := netB n ls && (ls.getD (ls.length - 1) []).all tnB
def negL (ls : List (List (List Int × Int))) : List (List (List Int × Int)) := ls.set (ls.length - 1) ((ls.getD (ls.length - 1) []).map tn)
theorem neg_length (zs : List Int) : (neg zs).length = zs.length := by simp [neg]
theorem totJ_tn (l : List (List Int × Int)) : (l.map tn).length + planesfns.totJ (l.map tn) = l.length + planesfns.totJ l := by
  rw [List.length_map]
  congr 1
  unfold planesfns.totJ grid.tot
  rw [List.map_map, List.map_map, List.map_map]
  congr 1
  refine List.map_congr_left fun x _ => ?_
  exact neg_length x.1
theorem sum_set (xs : List Nat) (m y : Nat) (h : m < xs.length) (e : y = xs[m]) : (xs.set m y).sum = xs.sum := by
  subst e; rw [List.set_getElem_self h]
theorem negL_tot (ls : List (List (List Int × Int))) : (negL ls).length + totL (negL ls) = ls.length + totL ls := by
  unfold negL
  rw [List.length_set]
  congr 1
  unfold totL
  by_cases h : ls.length - 1 < ls.length
  · rw [List.map_set]
    refine sum_set _ _ _ (by simpa using h) ?_
    rw [totJ_tn, List.getElem_map, List.getD_eq_getElem?_getD, List.getElem?_eq_getElem h]; rfl
  · rw [List.set_eq_of_length_le (by omega)]
theorem set_getD_self (ls : List (List (List Int × Int))) (m : Nat) (h : m < ls.length) : ls.set m (ls.getD m []) = ls := by
  rw [List.getD_eq_getElem?_getD, List.getElem?_eq_getElem h, Option.getD_some]; exact List.set_getElem_self h
theorem lay_get {lo hi m : Nat} {w : World} {v : Value} {ls : List (List (List Int × Int))} {vs : List Value} {css : List (List Value)} {ps : List (List Int × Int)} (h : OwnLK lo hi w v (ls.set m ps) vs css) (hm : m < ls.length) : OwnK lo hi w (vs.getD m undef) ps (css.getD m []) := by
  have := h.2.2.2.2.1 m (by rw [List.length_set]; exact hm)
  rwa [getD_set _ _ _ _ _ hm, if_pos rfl] at this
/-- One plane of one list in place of another. -/
theorem OwnLK.put {lo m k g q : Nat} {w w6 : World} {v c : Value} {ls : List (List (List Int × Int))} {vs : List Value} {css : List (List Value)} {ps : List (List Int × Int)} {x : List Int × Int} (h : OwnLK lo w.heap.size w v (ls.set m ps) vs css) (hm : m < ls.length) (hk : k < ps.length) (hv : vs.getD m undef = .slice (some ⟨g, 0, none⟩) ps.length q)
    (hb : Below w.heap.size w w6) (hc : OwnI w.heap.size w6.heap.size w6 c x.1) (hlo : lo ≤ w.heap.size) :
    OwnLK lo w6.heap.size ((w6.setCell ⟨g, k * 2, none⟩ c).setCell ⟨g, k * 2 + 1, none⟩ (.int .i64 x.2)) v (ls.set m (ps.set k x)) vs (css.set m ((css.getD m []).set k c)) := by
  have hk0 := lay_get h hm
  have hfl : (css.getD m []).length = ps.length := by have := hk0.2.2.1; rw [List.length_map] at this; exact this
  have hk6 : OwnK lo w.heap.size w6 (vs.getD m undef) ps (css.getD m []) := hk0.keep fun g hg => hb.block g (hk0.foot hg).2.2
  rw [hv] at hk6
  have hp := OwnK.put hk6 hk hc hlo hb.size
  have hgl := hk6.2.1 g rfl
  obtain ⟨h1, h2, h3⟩ := h
  have h36 := h3.below hb
  have hp' : OwnK lo w6.heap.size ((w6.setCell ⟨g, k * 2, none⟩ c).setCell ⟨g, k * 2 + 1, none⟩ (.int .i64 x.2)) (vs.getD m undef) (ps.set k x) ((css.getD m []).set k c) := by
    rw [hv]; rw [List.length_set] at hp; exact hp
  have hs : ∀ g', g' ≠ g → ((w6.setCell ⟨g, k * 2, none⟩ c).setCell ⟨g, k * 2 + 1, none⟩ (.int .i64 x.2)).heap[g']? = w6.heap[g']? := fun g' e => by
    rw [Below.heap_setCell _ _ _ _ (by show g' ≠ g; exact e), Below.heap_setCell _ _ _ _ (by show g' ≠ g; exact e)]
  have hl := LaysOf.put h36 (by rw [List.length_set]; exact hm) hp' (fun g' hf => by
    rw [getD_set _ _ _ _ _ hm, if_pos rfl]
    rw [List.length_set] at hf
    exact OwnK.put_foot hfl hc hf) (fun g' _ hne => hs g' fun e => hne (by rw [hv, e]; rfl)) hb.size
  rw [List.set_set] at hl
  refine ⟨?_, fun g' e => Nat.lt_of_lt_of_le (h2 g' e) hb.size, hl⟩
  have h16 := ownsRow_block (w' := w6) h1 (fun g' hg => hb.block g' (h1.lt g' hg).2)
  rw [List.length_set] at h16 ⊢
  refine ownsRow_block h16 fun g' hg => hs g' fun e => ?_
  subst e
  exact hk6.apart h16 hg (.inl rfl)
theorem cell_keep4 {W W' : World} (h : Below W.heap.size W W') {b o : Nat} {x : Value} (hx : W.cell? ⟨b, o, none⟩ = some x) : W'.cell? ⟨b, o, none⟩ = some x := cell_below h hx (World.block_lt_of_cell? W _ hx)
theorem OwnLK.low {lo hi : Nat} {w w' : World} {v : Value} {ls : List (List (List Int × Int))} {vs : List Value} {css : List (List Value)} (h : OwnLK lo hi w v ls vs css) (hb : Below w.heap.size w w') : OwnLK lo hi w' v ls vs css :=
  ⟨ownsRow_block h.1 fun g hg => hb.block g (h.1.lt g hg).2, h.2.1, h.2.2.below hb⟩
theorem spec_turn (a : Option Addr) (zs : List Int) (c : Nat) (b : Int) (w : World) (hr : ints.Reads .i64 w a zs) (hn : zs.length ≤ 1048576) :
    Calls Try.prog 84 #[.agg #[.slice a zs.length c, .int .i64 b]] w (RetPB (if tnB (zs, b) then neg zs else []) (if tnB (zs, b) then 1 - b else 0) (tnB (zs, b)) w) := by
  cases h1 : planeB zs b
  · rw [show tnB (zs, b) = false by simp [tnB, h1]]; exact turnplane.spec_no a zs c b w hr hn (Lib.hid h1)
  cases h2 : planeB (neg zs) (1 - b)
  · rw [show tnB (zs, b) = false by simp [tnB, h2]]; exact turnplane.spec_out a zs c b w hr hn (Lib.hid h1) (Lib.hid h2)
  · rw [show tnB (zs, b) = true by simp [tnB, h1, h2]]; exact turnplane.spec_yes a zs c b w hr hn (Lib.hid h1) (Lib.hid h2)
set_option maxRecDepth 100000 in
set_option maxHeartbeats 1600000 in
theorem spec_neg_no (a : Option Addr) (ls : List (List (List Int × Int))) (c : Nat) (n : Int) (w : World) (hr : ReadsL w a ls) (hn : ls.length ≤ 1048576) (hm : ∀ x ∈ ls, x.length ≤ 1048576 ∧ ∀ y ∈ x, y.1.length ≤ 1048576) (hk : netB n ls = false) :
    Calls Try.prog 43 #[.agg #[.int .i64 n, .slice a ls.length c]] w (RetTB [] 0 false w) := by
  have Hhr := Lib.hid hr
  have Hhm := Lib.hid hm
  clear hr hm
  have HK := Lib.hid hk
  clear hk
  go_enter Try.func43, Try.ntmps43
  obtain ⟨wb1, hw1⟩ : ∃ wb1 : World, wb1 = w.alloc (.cells #[.int .i64 n, .slice a ls.length c] 29) := ⟨_, rfl⟩
  obtain ⟨wb2, hw2⟩ : ∃ wb2 : World, wb2 = wb1.alloc (.cells #[.int .i64 0, .slice none 0 0] 29) := ⟨_, rfl⟩
  have z1 : wb1.heap.size = w.heap.size + 1 := by rw [hw1]; simp
  have z2 : wb2.heap.size = w.heap.size + 2 := by rw [hw2]; simp; omega
  have x0_0 := (by rw [hw2]; exact cell_old _ (by rw [hw1]; exact cell_new _ _ _ rfl rfl : wb1.cell? ⟨w.heap.size, 0, none⟩ = some (.int .i64 n)) : wb2.cell? ⟨w.heap.size, 0, none⟩ = some (.int .i64 n))
  have x0_1 := (by rw [hw2]; exact cell_old _ (by rw [hw1]; exact cell_new _ _ _ rfl rfl : wb1.cell? ⟨w.heap.size, 1, none⟩ = some (.slice a ls.length c)) : wb2.cell? ⟨w.heap.size, 1, none⟩ = some (.slice a ls.length c))
  have x1_0 := (by rw [hw2]; exact cell_new _ _ _ z1.symm rfl : wb2.cell? ⟨w.heap.size + 1, 0, none⟩ = some (.int .i64 0))
  have x1_1 := (by rw [hw2]; exact cell_new _ _ _ z1.symm rfl : wb2.cell? ⟨w.heap.size + 1, 1, none⟩ = some (.slice none 0 0))
  have HB0 := Lib.hid (show Below w.heap.size w wb2 by rw [hw2]; exact (show Below w.heap.size w wb1 by rw [hw1]; exact (Below.refl w.heap.size w).alloc (Nat.le_refl _) _).alloc (by omega) _)
  have s2 : w.heap.size + 2 ≤ wb2.heap.size := by omega
  have f1_0 := (by rw [hw2]; exact fro_new _ _ _ z1.symm : wb2.frozen? ⟨w.heap.size + 1, 0, none⟩ = false)
  have f1_1 := (by rw [hw2]; exact fro_new _ _ _ z1.symm : wb2.frozen? ⟨w.heap.size + 1, 1, none⟩ = false)
  have HZ2 := Lib.hid z2
  clear z1 z2
  go_wp2_with fail
  rw [← hw1, ← hw2]
  clear hw1 hw2
  refine (spec_good a ls c n wb2 (Hhr.out.below HB0.out) hn Hhm.out false HK).mono ?_
  rintro e w2 ⟨rfl, hb⟩
  replace x1_0 := cell_below hb x1_0 (by omega)
  replace x1_1 := cell_below hb x1_1 (by omega)
  replace f1_0 := fro_below hb f1_0 (by omega)
  replace f1_1 := fro_below hb f1_1 (by omega)
  have HB2 := Lib.hid (HB0.out.trans (hb.mono (by omega)))
  clear hb
  go_wp2_with fail
  refine bodyPost_ret (v := .tuple #[.agg #[.int .i64 0, .slice none 0 0], .bool false]) (by simp [results, Try.results43, go_sem, x1_0, x1_1, f1_0, f1_1]) rfl ⟨_, rfl, ?_, ?_⟩
  · exact OwnL.nil _ _ _
  · exact (HB2.out.setCell (by simp) _).setCell (by simp) _
set_option maxRecDepth 100000 in
set_option maxHeartbeats 1600000 in
theorem spec_neg_net (a : Option Addr) (ls : List (List (List Int × Int))) (c : Nat) (n : Int) (w : World) (hr : ReadsL w a ls) (hn : ls.length ≤ 1048576) (hm : ∀ x ∈ ls, x.length ≤ 1048576 ∧ ∀ y ∈ x, y.1.length ≤ 1048576) (hk : netB n ls = true) (R : List (List (List Int × Int))) (nn : Int) (ok : Bool) (HR : Hid ((negB n ls = true ∧ R = negL ls ∧ nn = n ∧ ok = true) ∨ (negB n ls = false ∧ R = [] ∧ nn = 0 ∧ ok = false))) :
    Calls Try.prog 43 #[.agg #[.int .i64 n, .slice a ls.length c]] w (RetTB R nn ok w) := by
  have Hhr := Lib.hid hr
  have Hhm := Lib.hid hm
  clear hr hm
  have HK := Lib.hid hk
  have h6 := net_len hk
  have hl4 := net_lay hk (ls.length - 1) (by omega)
  obtain ⟨L, hL⟩ : ∃ L, ls.length = L + 1 := ⟨ls.length - 1, by omega⟩
  have hL5 : L ≤ 5 := by omega
  have hmL : L < ls.length := by omega
  have HNB := Lib.hid (show negB n ls = (ls.getD L []).all tnB by unfold negB; rw [hk, Bool.true_and, hL, Nat.add_sub_cancel])
  have HNL := Lib.hid (show negL ls = ls.set L ((ls.getD L []).map tn) by unfold negL; rw [hL, Nat.add_sub_cancel])
  rw [show ls.length - 1 = L by omega] at hl4
  have HGD := Lib.hid (fun (W : World) (hB : Below w.heap.size w W) => spec_good a ls c n W (Hhr.out.below hB) hn Hhm.out true HK)
  have HCN := Lib.hid (fun (W : World) (hB : Below w.heap.size w W) => spec_copy_net a ls c n W (Hhr.out.below hB) hn Hhm.out)
  have HLm := Lib.hid (Hhm.out (ls.getD L []) (by rw [List.getD_eq_getElem?_getD, List.getElem?_eq_getElem hmL]; exact List.getElem_mem hmL))
  have HLL := Lib.hid hL
  have HmL := Lib.hid hmL
  clear hk h6 hL hmL
  go_enter Try.func43, Try.ntmps43
  obtain ⟨wb1, hw1⟩ : ∃ wb1 : World, wb1 = w.alloc (.cells #[.int .i64 n, .slice a ls.length c] 29) := ⟨_, rfl⟩
  obtain ⟨wb2, hw2⟩ : ∃ wb2 : World, wb2 = wb1.alloc (.cells #[.int .i64 0, .slice none 0 0] 29) := ⟨_, rfl⟩
  have z1 : wb1.heap.size = w.heap.size + 1 := by rw [hw1]; simp
  have z2 : wb2.heap.size = w.heap.size + 2 := by rw [hw2]; simp; omega
  have x0_0 := (by rw [hw2]; exact cell_old _ (by rw [hw1]; exact cell_new _ _ _ rfl rfl : wb1.cell? ⟨w.heap.size, 0, none⟩ = some (.int .i64 n)) : wb2.cell? ⟨w.heap.size, 0, none⟩ = some (.int .i64 n))
  have x0_1 := (by rw [hw2]; exact cell_old _ (by rw [hw1]; exact cell_new _ _ _ rfl rfl : wb1.cell? ⟨w.heap.size, 1, none⟩ = some (.slice a ls.length c)) : wb2.cell? ⟨w.heap.size, 1, none⟩ = some (.slice a ls.length c))
  have x1_0 := (by rw [hw2]; exact cell_new _ _ _ z1.symm rfl : wb2.cell? ⟨w.heap.size + 1, 0, none⟩ = some (.int .i64 0))
  have x1_1 := (by rw [hw2]; exact cell_new _ _ _ z1.symm rfl : wb2.cell? ⟨w.heap.size + 1, 1, none⟩ = some (.slice none 0 0))
  have HB0 := Lib.hid (show Below w.heap.size w wb2 by rw [hw2]; exact (show Below w.heap.size w wb1 by rw [hw1]; exact (Below.refl w.heap.size w).alloc (Nat.le_refl _) _).alloc (by omega) _)
  have s2 : w.heap.size + 2 ≤ wb2.heap.size := by omega
  have f1_0 := (by rw [hw2]; exact fro_new _ _ _ z1.symm : wb2.frozen? ⟨w.heap.size + 1, 0, none⟩ = false)
  have f1_1 := (by rw [hw2]; exact fro_new _ _ _ z1.symm : wb2.frozen? ⟨w.heap.size + 1, 1, none⟩ = false)
  have HZ2 := Lib.hid z2
  clear z1 z2
  go_wp2_with fail
  rw [← hw1, ← hw2]
  clear hw1 hw2
  refine (HGD.out wb2 HB0.out).mono ?_
  rintro e w2 ⟨rfl, hb⟩
  replace x1_0 := cell_below hb x1_0 (by omega)
  replace x1_1 := cell_below hb x1_1 (by omega)
  replace f1_0 := fro_below hb f1_0 (by omega)
  replace f1_1 := fro_below hb f1_1 (by omega)
  have s2' := hb.size
  have HB2 := Lib.hid (HB0.out.trans (hb.mono (by omega)))
  replace x0_0 := cell_below hb x0_0 (by omega)
  replace x0_1 := cell_below hb x0_1 (by omega)
  clear hb
  go_wp2_with fail
  refine (HCN.out w2 HB2.out).mono ?_
  rintro e w3 ⟨pv, qv, vs, css0, rfl, hol, hb3⟩
  have hs3 := hb3.size
  replace x1_0 := cell_below hb3 x1_0 (by omega)
  replace x1_1 := cell_below hb3 x1_1 (by omega)
  replace f1_0 := fro_below hb3 f1_0 (by omega)
  replace f1_1 := fro_below hb3 f1_1 (by omega)
  have HB3 := Lib.hid (HB2.out.trans (hb3.mono (by omega)))
  rw [HLL.out] at hol ⊢
  obtain ⟨gv, cap, hfv, _, _⟩ := hol.1.form (by have := HLL.out; omega)
  obtain ⟨rfl, rfl⟩ : pv = some ⟨gv, 0, none⟩ ∧ qv = cap := by simp at hfv; exact ⟨hfv.1, hfv.2.2⟩
  clear hfv
  obtain ⟨l, hl⟩ : ∃ l, ls.getD L [] = l := ⟨_, rfl⟩
  have hok0 := lay_get (m := L) (ps := l) (by rw [← hl, set_getD_self ls L HmL.out]; exact hol) HmL.out
  rw [hl] at hl4 HNB HNL HLm
  obtain ⟨gl, ql, hfl, _, _⟩ := hok0.1.form (by omega)
  have hcv : w3.cell? ⟨gv, L, none⟩ = some (.slice (some ⟨gl, 0, none⟩) l.length ql) := by
    have hvl : vs.length = L + 1 := by have := hol.2.2.1; rw [this, HLL.out]
    have h91 := hol.1
    rw [HLL.out] at h91
    rw [h91.cellAt L (by omega), List.getElem?_eq_getElem (by omega)]
    rw [List.getD_eq_getElem?_getD, List.getElem?_eq_getElem (by omega), Option.getD_some] at hfl
    rw [hfl]
  have HVS := Lib.hid hfl
  have HO3 := Lib.hid (show OwnLK w2.heap.size w3.heap.size w3 (.slice (some ⟨gv, 0, none⟩) (L + 1) qv) (ls.set L (tnsTo l 0)) vs css0 by rw [tnsTo_zero, ← hl, set_getD_self ls L HmL.out]; have h9 := hol; rw [← HLL.out] at h9; rw [← HLL.out]; exact h9)
  have hgl3 := (hok0.1.lt gl (by rw [hfl]; rfl)).2
  have hl9 := hl4.2
  have hl1 := hl4.1
  have HLM := Lib.hid HLm.out.2
  clear hol hb3 hok0 hl hfl HLm HGD HCN Hhr Hhm HK hl4 x0_0 x0_1
  obtain ⟨w4, hw4⟩ : ∃ w4 : World, w4 = w3.alloc (.cells #[.int .i64 n, (.slice (some ⟨gv, 0, none⟩) (L + 1) qv)] 29) := ⟨_, rfl⟩
  have hb4 : Below w3.heap.size w3 w4 := by rw [hw4]; exact below_alloc _ _
  have z4 : w4.heap.size = w3.heap.size + 1 := by rw [hw4]; simp
  have c40 : w4.cell? ⟨w3.heap.size, 0, none⟩ = some (.int .i64 n) := by rw [hw4]; exact cell_new _ _ _ rfl rfl
  have c41 : w4.cell? ⟨w3.heap.size, 1, none⟩ = some (.slice (some ⟨gv, 0, none⟩) (L + 1) qv) := by rw [hw4]; exact cell_new _ _ _ rfl rfl
  have hcv4 : (w3.alloc (.cells #[.int .i64 n, (.slice (some ⟨gv, 0, none⟩) (L + 1) qv)] 29)).cell? ⟨gv, L, none⟩ = some (.slice (some ⟨gl, 0, none⟩) l.length ql) := by rw [← hw4]; exact cell_keep4 hb4 hcv
  replace x1_0 := cell_below hb4 x1_0 (by omega)
  replace x1_1 := cell_below hb4 x1_1 (by omega)
  replace f1_0 := fro_below hb4 f1_0 (by omega)
  replace f1_1 := fro_below hb4 f1_1 (by omega)
  have HB4 := Lib.hid (HB3.out.trans (hb4.mono (by omega)))
  have HO4 := Lib.hid (show OwnLK w2.heap.size w4.heap.size w4 (.slice (some ⟨gv, 0, none⟩) (L + 1) qv) (ls.set L (tnsTo l 0)) vs css0 from OwnLK.mono (OwnLK.low HO3.out hb4) (Nat.le_refl _) hb4.size)
  clear hb4 HO3 hcv
  go_wp2_with fail
  rw [← hw4]
  clear hw4 hcv4
  obtain ⟨B, hB⟩ : ∃ B, w3.heap.size = B := ⟨_, rfl⟩
  rw [hB] at c40 c41 ⊢
  have hBg : gl < B := by omega
  have hBs : B < w4.heap.size := by omega
  have hB2 : w2.heap.size ≤ B := by omega
  have HX4 := Lib.hid (show w4.cell? ⟨w.heap.size + 1, 0, none⟩ = some (.int .i64 0) ∧ w4.cell? ⟨w.heap.size + 1, 1, none⟩ = some (.slice none 0 0) ∧ w4.frozen? ⟨w.heap.size + 1, 0, none⟩ = false ∧ w4.frozen? ⟨w.heap.size + 1, 1, none⟩ = false ∧ w4.cell? ⟨B, 0, none⟩ = some (.int .i64 n) ∧ w4.cell? ⟨B, 1, none⟩ = some (.slice (some ⟨gv, 0, none⟩) (L + 1) qv) from ⟨x1_0, x1_1, f1_0, f1_1, c40, c41⟩)
  have hgl2 : w2.heap.size ≤ gl := by have := (lay_get HO4.out HmL.out).1.lt gl (by rw [HVS.out]; rfl); omega
  clear hB z4 hgl3 x1_0 x1_1 f1_0 f1_1 c40 c41
  go_loopw [6] (fun i wr => ∃ (k : Nat) (css : List (List Value)), k ≤ l.length ∧ i = .int .i64 k ∧ Hid (OwnLK w2.heap.size wr.heap.size wr (.slice (some ⟨gv, 0, none⟩) (L + 1) qv) (ls.set L (tnsTo l k)) vs css) ∧ Hid (wr.cell? ⟨w.heap.size + 1, 0, none⟩ = some (.int .i64 0) ∧ wr.cell? ⟨w.heap.size + 1, 1, none⟩ = some (.slice none 0 0) ∧ wr.frozen? ⟨w.heap.size + 1, 0, none⟩ = false ∧ wr.frozen? ⟨w.heap.size + 1, 1, none⟩ = false ∧ wr.cell? ⟨B, 0, none⟩ = some (.int .i64 n) ∧ wr.cell? ⟨B, 1, none⟩ = some (.slice (some ⟨gv, 0, none⟩) (L + 1) qv)) ∧ Hid (Below w.heap.size w wr) ∧ B < wr.heap.size ∧ Hid (∀ j, j < k → tnB (l.getD j ([], 0)) = true)) (fun i _ => l.length - (intOf i).toNat)
  case atStart => exact ⟨0, _, Nat.zero_le _, rfl, HO4, HX4, HB4, hBs, Lib.hid (fun j hj => absurd hj (Nat.not_lt_zero _))⟩
  case round =>
    obtain ⟨k, css, hk9, rfl, HOo, HXe, HBo, hszo, HTo⟩ := hrel
    clear HO4 HX4 HB4 hBs
    by_cases hlt : k < l.length
    · have hk0 := lay_get HOo.out HmL.out
      rw [HVS.out] at hk0
      have hr0 := OwnJ.reads (show OwnJ w2.heap.size wr.heap.size wr (.slice (some ⟨gl, 0, none⟩) l.length ql) (tnsTo l k) from ⟨_, hk0⟩)
      obtain ⟨b1, o1, pj, pqj, hab, hglw, kj, dj, _, hrowj⟩ := hr0.at (k := k) (by rw [tnsTo_length]; exact hlt)
      have e1 : b1 = gl ∧ o1 = 0 := by simp at hab; exact ⟨hab.1.symm, hab.2.symm⟩
      rw [e1.1, e1.2, Nat.zero_add, tnsTo_getD l k hlt] at kj dj
      rw [tnsTo_getD l k hlt] at hrowj
      rw [e1.1] at hglw
      have hk1 := hk0.1
      rw [tnsTo_length] at hk1
      have fk0 := hk1.frozenAt (k * 2)
      have fk1 := hk1.frozenAt (k * 2 + 1)
      have hws := HLM.out (l.getD k ([], 0)) (by rw [List.getD_eq_getElem?_getD, List.getElem?_eq_getElem hlt]; exact List.getElem_mem hlt)
      have HTn := Lib.hid (spec_turn pj (l.getD k ([], 0)).1 pqj (l.getD k ([], 0)).2 wr hrowj hws)
      have HTS := Lib.hid (tnsTo_succ l k hlt)
      have i1 : (0 : Int) ≤ (k : Int) := by omega
      have i2 : (k : Int) < (l.length : Int) := by omega
      obtain ⟨x1_0, x1_1, f1_0, f1_1, c40, c41⟩ := HXe.out
      clear hk0 hk1 hr0 hab e1 hrowj hws
      cases ht : tnB (l.getD k ([], 0))
      · have HNo := Lib.hid (show negB n ls = false by rw [HNB.out]; exact List.all_eq_false.2 ⟨l.getD k ([], 0), by rw [List.getD_eq_getElem?_getD, List.getElem?_eq_getElem hlt]; exact List.getElem_mem hlt, by rw [ht]; exact Bool.false_ne_true⟩)
        have HTN := Lib.hid (show Calls Try.prog 84 #[.agg #[.slice pj (l.getD k ([], 0)).1.length pqj, .int .i64 (l.getD k ([], 0)).2]] wr (RetPB [] 0 false wr) by have := HTn.out; rw [show tnB ((l.getD k ([], 0)).1, (l.getD k ([], 0)).2) = false from ht] at this; exact this)
        obtain ⟨rfl, rfl, rfl⟩ : R = [] ∧ nn = 0 ∧ ok = false := by
          rcases HR.out with h9 | h9
          · rw [HNo.out] at h9; exact absurd h9.1 (by simp)
          · exact h9.2
        clear HTn HTS ht HNo HR
        generalize (l.getD k ([], 0)).1 = wsj at *
        generalize (l.getD k ([], 0)).2 = bj at *
        go_wp2_with fail
        refine HTN.out.mono ?_
        rintro e w5 ⟨v5, rfl, ho5, hb5⟩
        obtain ⟨p5, q5, rfl, _, _, _⟩ := ho5.slice
        have hs5 := hb5.size
        have HB5 := Lib.hid (HBo.out.trans (hb5.mono (by have := HBo.out.size; omega)))
        have O7 := below_alloc w5 (.cells #[.slice p5 0 q5, .int .i64 0] 86)
        replace x1_0 := cell_below O7 (cell_below hb5 x1_0 (by omega)) (by omega)
        replace x1_1 := cell_below O7 (cell_below hb5 x1_1 (by omega)) (by omega)
        replace f1_0 := fro_below O7 (fro_below hb5 f1_0 (by omega)) (by omega)
        replace f1_1 := fro_below O7 (fro_below hb5 f1_1 (by omega)) (by omega)
        have HB7 := Lib.hid (HB5.out.trans (O7.mono (by omega)))
        clear hb5 ho5 O7 c40 c41 kj dj fk0 fk1
        go_wp2_with fail
        refine bodyPost_ret (v := .tuple #[.agg #[.int .i64 0, .slice none 0 0], .bool false]) (by simp [results, Try.results43, go_sem, x1_0, x1_1, f1_0, f1_1]) rfl ⟨_, rfl, ?_, ?_⟩
        · exact OwnL.nil _ _ _
        · exact (HB7.out.setCell (by simp) _).setCell (by simp) _
      · have HTT := Lib.hid (show Calls Try.prog 84 #[.agg #[.slice pj (l.getD k ([], 0)).1.length pqj, .int .i64 (l.getD k ([], 0)).2]] wr (RetPB (neg (l.getD k ([], 0)).1) (1 - (l.getD k ([], 0)).2) true wr) by have := HTn.out; rw [show tnB ((l.getD k ([], 0)).1, (l.getD k ([], 0)).2) = true from ht] at this; exact this)
        have HT2 := Lib.hid (show ∀ j, j < k + 1 → tnB (l.getD j ([], 0)) = true from fun j hj => by
          by_cases e : j = k
          · rw [e]; exact ht
          · exact HTo.out j (by omega))
        replace HTS := Lib.hid (show (tnsTo l k).set k (neg (l.getD k ([], 0)).1, 1 - (l.getD k ([], 0)).2) = tnsTo l (k + 1) from HTS.out)
        clear HTn ht HTo
        generalize (l.getD k ([], 0)).1 = wsj at *
        generalize (l.getD k ([], 0)).2 = bj at *
        go_wp2_with fail
        refine HTT.out.mono ?_
        rintro e w5 ⟨v5, rfl, ho5, hb5⟩
        obtain ⟨p5, q5, rfl, _, _, _⟩ := ho5.slice
        have hs5 := hb5.size
        have HB5 := Lib.hid (HBo.out.trans (hb5.mono (by have := HBo.out.size; omega)))
        have O7 := below_alloc w5 (.cells #[.slice p5 (neg wsj).length q5, .int .i64 (1 - bj)] 86)
        have z7 : (w5.alloc (.cells #[.slice p5 (neg wsj).length q5, .int .i64 (1 - bj)] 86)).heap.size = w5.heap.size + 1 := by simp
        have X1 := cell_below O7 (cell_below hb5 x1_0 (by omega)) (by omega)
        have X2 := cell_below O7 (cell_below hb5 x1_1 (by omega)) (by omega)
        have X3 := fro_below O7 (fro_below hb5 f1_0 (by omega)) (by omega)
        have X4 := fro_below O7 (fro_below hb5 f1_1 (by omega)) (by omega)
        have X5 := cell_below O7 (cell_below hb5 c40 (by omega)) (by omega)
        have X6 := cell_below O7 (cell_below hb5 c41 (by omega)) (by omega)
        replace kj := cell_below O7 (cell_below hb5 kj (by omega)) (by omega)
        replace dj := cell_below O7 (cell_below hb5 dj (by omega)) (by omega)
        replace fk0 := fro_below O7 (fro_below hb5 fk0 (by omega)) (by omega)
        replace fk1 := fro_below O7 (fro_below hb5 fk1 (by omega)) (by omega)
        have HB7 := Lib.hid (HB5.out.trans (O7.mono (by omega)))
        have HO6 := Lib.hid (OwnLK.put (x := (neg wsj, 1 - bj)) HOo.out HmL.out (by rw [tnsTo_length]; exact hlt) (by rw [HVS.out, tnsTo_length]) (hb5.trans (O7.mono hs5)) ((ho5.below O7).mono (Nat.le_refl _) O7.size) (by omega))
        have s7 : B < (w5.alloc (.cells #[.slice p5 (neg wsj).length q5, .int .i64 (1 - bj)] 86)).heap.size := by omega
        have HX7 := Lib.hid (And.intro X1 (And.intro X2 (And.intro X3 (And.intro X4 (And.intro X5 X6)))))
        clear hb5 ho5 O7 X1 X2 X3 X4 X5 X6 x1_0 x1_1 f1_0 f1_1 c40 c41 z7 HXe HOo HBo
        go_wp2_with fail
        go_roundw
        case rel => exact ⟨k + 1, _, by omega, by go_num, by rw [← HTS.out]; exact Lib.hid (by rw [size_set, size_set]; exact HO6.out), Lib.hid ⟨cell_set (cell_set HX7.out.1 (by simp; omega) _) (by simp; omega) _, cell_set (cell_set HX7.out.2.1 (by simp; omega) _) (by simp; omega) _, fro_set (fro_set HX7.out.2.2.1 (by simp; omega) _) (by simp; omega) _, fro_set (fro_set HX7.out.2.2.2.1 (by simp; omega) _) (by simp; omega) _, cell_set (cell_set HX7.out.2.2.2.2.1 (by simp; omega) _) (by simp; omega) _, cell_set (cell_set HX7.out.2.2.2.2.2 (by simp; omega) _) (by simp; omega) _⟩, Lib.hid ((HB7.out.setCell (by simp; omega) _).setCell (by simp; omega) _), by rw [size_set, size_set]; exact s7, HT2⟩
        case measure => simp [intOf]; omega
    · obtain rfl : k = l.length := by omega
      have hys : negB n ls = true := by
        rw [HNB.out]
        refine List.all_eq_true.2 fun y hy => ?_
        obtain ⟨j, hj, rfl⟩ := List.mem_iff_getElem.1 hy
        have h9 := HTo.out j hj
        rwa [List.getD_eq_getElem?_getD, List.getElem?_eq_getElem hj] at h9
      have HYs := Lib.hid hys
      clear hys
      obtain ⟨rfl, rfl, rfl⟩ : R = negL ls ∧ nn = n ∧ ok = true := by
        rcases HR.out with h9 | h9
        · exact h9.2
        · rw [HYs.out] at h9; exact absurd h9.1 (by simp)
      obtain ⟨x1_0, x1_1, f1_0, f1_1, c40, c41⟩ := HXe.out
      have HF := Lib.hid (show OwnLK w2.heap.size wr.heap.size wr (.slice (some ⟨gv, 0, none⟩) (L + 1) qv) (negL ls) vs css by rw [HNL.out, ← tnsTo_all]; exact HOo.out)
      clear HOo HXe HTo HR HYs
      go_wp2_with fail
      refine bodyPost_ret (v := .tuple #[.agg #[.int .i64 nn, (.slice (some ⟨gv, 0, none⟩) (L + 1) qv)], .bool true]) (by simp [results, Try.results43, go_sem, x1_0, x1_1, f1_0, f1_1]) rfl ⟨_, rfl, ?_, ?_⟩
      · simp only [size_set]; exact ⟨vs, css, OwnLK.mono (OwnLK.set (OwnLK.set HF.out (by simp; omega) _) (by simp; omega) _) (by omega) (Nat.le_refl _)⟩
      · exact (HBo.out.setCell (by simp) _).setCell (by simp) _
end Go.Proofs.Ytoephhhofkmgjaa.negs
