/- The model's NegateNet. -/
import Derived.Test.YtkbcofgigfnfaaaOwnNet
import Derived.Test.YtkbcofgigfnfaaaNegP
import Derived.Test.YtkbcofgigfnfaaaTurnPlane
import Derived.BigQuiet
namespace Go.Proofs.Ytkbcofgigfnfaaa.negs
open Go.RowKit own pp nums planes minus netp netb ownnet negp
set_option linter.unusedVariables false
set_option linter.unusedSimpArgs false

/-- The other side of a plane, and whether there is one. -/
def tnB (p : List Int × Int) : Bool := planeB p.1 p.2 && planeB (neg p.1) (1 - p.2)
def tn (p : List Int × Int) : List Int × Int := (neg p.1, 1 - p.2)
def tnsTo (l : List (List Int × Int)) (k : Nat) : List (List Int × Int) := (l.take k).map tn ++ l.drop k
theorem tnsTo_zero (l : List (List Int × Int)) : tnsTo l 0 = l := by simp [tnsTo]
theorem tnsTo_all (l : List (List Int × Int)) : tnsTo l l.length = l.map tn := by simp [tnsTo]
theorem tnsTo_length (l : List (List Int × Int)) (k : Nat) : (tnsTo l k).length = l.length := by simp [tnsTo]; omega
theorem tnsTo_getD (l : List (List Int × Int)) (k : Nat) (h : k < l.length) : (tnsTo l k).getD k ([], 0) = l.getD k ([], 0) := by
  unfold tnsTo
  have hl : ((l.take k).map tn).length = k := by rw [List.length_map, List.length_take]; omega
  rw [List.getD_eq_getElem?_getD, List.getElem?_append_right (by omega), hl, Nat.sub_self, List.getElem?_drop, List.getD_eq_getElem?_getD, Nat.add_zero]
theorem tnsTo_succ (l : List (List Int × Int)) (k : Nat) (h : k < l.length) : (tnsTo l k).set k (tn (l.getD k ([], 0))) = tnsTo l (k + 1) := by
  unfold tnsTo
  have hl : ((l.take k).map tn).length = k := by rw [List.length_map, List.length_take]; omega
  rw [List.set_append, if_neg (by omega), hl, Nat.sub_self, take_snocJ l k h, List.map_append, List.append_assoc]
  congr 1
  rw [List.drop_eq_getElem_cons h, List.set_cons_zero]
  rfl
def negB (n : Int) (ls : List (List (List Int × Int))) : Bool := netB n ls && (ls.getD (ls.length - 1) []).all tnB
def negL (ls : List (List (List Int × Int))) : List (List (List Int × Int)) := ls.set (ls.length - 1) ((ls.getD (ls.length - 1) []).map tn)
theorem neg_length (zs : List Int) : (neg zs).length = zs.length := by simp [neg]
theorem totJ_tn (l : List (List Int × Int)) : (l.map tn).length + planesfns.totJ (l.map tn) = l.length + planesfns.totJ l := by
  rw [List.length_map]
  congr 1
  unfold planesfns.totJ grid.tot
  rw [List.map_map, List.map_map, List.map_map]
  congr 1
  refine List.map_congr_left fun x _ => ?_
  exact neg_length x.1
theorem sum_set (xs : List Nat) (m y : Nat) (h : m < xs.length) (e : y = xs[m]) : (xs.set m y).sum = xs.sum := by
  subst e; rw [List.set_getElem_self h]
theorem negL_tot (ls : List (List (List Int × Int))) : (negL ls).length + totL (negL ls) = ls.length + totL ls := by
  unfold negL
  rw [List.length_set]
  congr 1
  unfold totL
  by_cases h : ls.length - 1 < ls.length
  · rw [List.map_set]
    refine sum_set _ _ _ (by simpa using h) ?_
    rw [totJ_tn, List.getElem_map, List.getD_eq_getElem?_getD, List.getElem?_eq_getElem h]; rfl
  · rw [List.set_eq_of_length_le (by omega)]
theorem set_getD_self (ls : List (List (List Int × Int))) (m : Nat) (h : m < ls.length) : ls.set m (ls.getD m []) = ls := by
  rw [List.getD_eq_getElem?_getD, List.getElem?_eq_getElem h, Option.getD_some]; exact List.set_getElem_self h
theorem lay_get {lo hi m : Nat} {w : World} {v : Value} {ls : List (List (List Int × Int))} {vs : List Value} {css : List (List Value)} {ps : List (List Int × Int)} (h : OwnLK lo hi w v (ls.set m ps) vs css) (hm : m < ls.length) : OwnK lo hi w (vs.getD m undef) ps (css.getD m []) := by
  have := h.2.2.2.2.1 m (by rw [List.length_set]; exact hm)
  rwa [getD_set _ _ _ _ _ hm, if_pos rfl] at this
/-- One plane of one list in place of another. -/
theorem OwnLK.put {lo m k g q : Nat} {w w6 : World} {v c : Value} {ls : List (List (List Int × Int))} {vs : List Value} {css : List (List Value)} {ps : List (List Int × Int)} {x : List Int × Int} (h : OwnLK lo w.heap.size w v (ls.set m ps) vs css) (hm : m < ls.length) (hk : k < ps.length) (hv : vs.getD m undef = .slice (some ⟨g, 0, none⟩) ps.length q)
    (hb : Below w.heap.size w w6) (hc : OwnI w.heap.size w6.heap.size w6 c x.1) (hlo : lo ≤ w.heap.size) :
    OwnLK lo w6.heap.size ((w6.setCell ⟨g, k * 2, none⟩ c).setCell ⟨g, k * 2 + 1, none⟩ (.int .i64 x.2)) v (ls.set m (ps.set k x)) vs (css.set m ((css.getD m []).set k c)) := by
  have hk0 := lay_get h hm
  have hfl : (css.getD m []).length = ps.length := by have := hk0.2.2.1; rw [List.length_map] at this; exact this
  have hk6 : OwnK lo w.heap.size w6 (vs.getD m undef) ps (css.getD m []) := hk0.keep fun g hg => hb.block g (hk0.foot hg).2.2
  rw [hv] at hk6
  have hp := OwnK.put hk6 hk hc hlo hb.size
  have hgl := hk6.2.1 g rfl
  obtain ⟨h1, h2, h3⟩ := h
  have h36 := h3.below hb
  have hp' : OwnK lo w6.heap.size ((w6.setCell ⟨g, k * 2, none⟩ c).setCell ⟨g, k * 2 + 1, none⟩ (.int .i64 x.2)) (vs.getD m undef) (ps.set k x) ((css.getD m []).set k c) := by
    rw [hv]; rw [List.length_set] at hp; exact hp
  have hs : ∀ g', g' ≠ g → ((w6.setCell ⟨g, k * 2, none⟩ c).setCell ⟨g, k * 2 + 1, none⟩ (.int .i64 x.2)).heap[g']? = w6.heap[g']? := fun g' e => by
    rw [Below.heap_setCell _ _ _ _ (by show g' ≠ g; exact e), Below.heap_setCell _ _ _ _ (by show g' ≠ g; exact e)]
  have hl := LaysOf.put h36 (by rw [List.length_set]; exact hm) hp' (fun g' hf => by
    rw [getD_set _ _ _ _ _ hm, if_pos rfl]
    rw [List.length_set] at hf
    exact OwnK.put_foot hfl hc hf) (fun g' _ hne => hs g' fun e => hne (by rw [hv, e]; rfl)) hb.size
  rw [List.set_set] at hl
  refine ⟨?_, fun g' e => Nat.lt_of_lt_of_le (h2 g' e) hb.size, hl⟩
  have h16 := ownsRow_block (w' := w6) h1 (fun g' hg => hb.block g' (h1.lt g' hg).2)
  rw [List.length_set] at h16 ⊢
  refine ownsRow_block h16 fun g' hg => hs g' fun e => ?_
  subst e
  exact hk6.apart h16 hg (.inl rfl)
theorem cell_keep4 {W W' : World} (h : Below W.heap.size W W') {b o : Nat} {x : Value} (hx : W.cell? ⟨b, o, none⟩ = some x) : W'.cell? ⟨b, o, none⟩ = some x := cell_below h hx (World.block_lt_of_cell? W _ hx)
theorem OwnLK.low {lo hi : Nat} {w w' : World} {v : Value} {ls : List (List (List Int × Int))} {vs : List Value} {css : List (List Value)} (h : OwnLK lo hi w v ls vs css) (hb : Below w.heap.size w w') : OwnLK lo hi w' v ls vs css :=
  ⟨ownsRow_block h.1 fun g hg => hb.block g (h.1.lt g hg).2, h.2.1, h.2.2.below hb⟩
end Go.Proofs.Ytkbcofgigfnfaaa.negs
