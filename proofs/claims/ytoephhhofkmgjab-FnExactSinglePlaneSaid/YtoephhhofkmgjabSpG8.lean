/- Several texts in one. -/
import Derived.Deep.RegionHeld3
import Derived.Test.YtoephhhofkmgjabSpG7
namespace Go.Proofs.Ytoephhhofkmgjab.own
open Go.RowKit
set_option linter.unusedVariables false

/-- The blocks of a slice of planes and of its weights. -/
def FootJ (v : Value) (cs : List Value) (n : Nat) (g : Nat) : Prop := v.ownBlock = some g ∨ Blk cs n g
theorem OwnK.foot {lo hi g : Nat} {w : World} {v : Value} {ps : List (List Int × Int)} {cs : List Value} (h : OwnK lo hi w v ps cs) (hg : FootJ v cs ps.length g) : lo ≤ g ∧ g < hi ∧ g < w.heap.size := by
  obtain ⟨h1, h2, h3⟩ := h
  rcases hg with hg | ⟨i, hi, he⟩
  · exact ⟨(h1.lt g hg).1, h2 g hg, (h1.lt g hg).2⟩
  · exact (h3.2.1 i (by rw [List.length_map]; exact hi)).lt he
theorem OwnK.keep {lo hi : Nat} {w w' : World} {v : Value} {ps : List (List Int × Int)} {cs : List Value} (h : OwnK lo hi w v ps cs) (hb : ∀ g, FootJ v cs ps.length g → w'.heap[g]? = w.heap[g]?) : OwnK lo hi w' v ps cs := by
  obtain ⟨h1, h2, h3⟩ := h
  exact ⟨ownsRow_block h1 (fun g hg => hb g (.inl hg)), h2, h3.keep fun g _ _ _ ⟨i, hi, he⟩ => hb g (.inr ⟨i, by rw [List.length_map] at hi; exact hi, he⟩)⟩
theorem OwnK.widen {lo hi lo' hi' : Nat} {w : World} {v : Value} {ps : List (List Int × Int)} {cs : List Value} (h : OwnK lo hi w v ps cs) (h1 : lo' ≤ lo) (h2 : hi ≤ hi') : OwnK lo' hi' w v ps cs :=
  ⟨ownsRow_base h.1 (fun g hg => Nat.le_trans h1 (h.1.lt g hg).1), fun g hg => Nat.lt_of_lt_of_le (h.2.1 g hg) h2, h.2.2.mono h1 h2⟩
/-- Blocks of another kind of elements are none of these. -/
theorem OwnK.apart {lo hi lo' : Nat} {w : World} {v v' : Value} {ps : List (List Int × Int)} {cs : List Value} {n' : Nat} {xs : List Value} (h : OwnK lo hi w v ps cs) (h' : w.ownsRow lo' 72 1 v' n' xs) {g : Nat} (hg : v'.ownBlock = some g) : ¬ FootJ v cs ps.length g := by
  rintro (hf | ⟨i, hi, he⟩)
  · exact ownsRow_ne h.1 h' (by decide) hf hg
  · exact ownsRow_ne (h.2.2.2.1 i (by rw [List.length_map]; exact hi)).1 h' (by decide) he hg

/-- Slices of planes, no block of which is in two of them. -/
def LaysOf (lo hi : Nat) (w : World) (vs : List Value) (css : List (List Value)) (ls : List (List (List Int × Int))) : Prop :=
  vs.length = ls.length ∧ css.length = ls.length ∧ (∀ i, i < ls.length → OwnK lo hi w (vs.getD i undef) (ls.getD i []) (css.getD i [])) ∧
    (∀ i j, i < j → j < ls.length → ∀ g, FootJ (vs.getD i undef) (css.getD i []) (ls.getD i []).length g → ¬ FootJ (vs.getD j undef) (css.getD j []) (ls.getD j []).length g)
/-- The blocks of all of them. -/
def FootL (vs : List Value) (css : List (List Value)) (ls : List (List (List Int × Int))) (g : Nat) : Prop := ∃ i, i < ls.length ∧ FootJ (vs.getD i undef) (css.getD i []) (ls.getD i []).length g
theorem LaysOf.nil (lo hi : Nat) (w : World) : LaysOf lo hi w [] [] [] := ⟨rfl, rfl, fun i hi => by simp at hi, fun i j _ hj => by simp at hj⟩
theorem LaysOf.foot {lo hi g : Nat} {w : World} {vs : List Value} {css : List (List Value)} {ls : List (List (List Int × Int))} (h : LaysOf lo hi w vs css ls) (hg : FootL vs css ls g) : lo ≤ g ∧ g < hi ∧ g < w.heap.size := by
  obtain ⟨i, hi, he⟩ := hg
  exact (h.2.2.1 i hi).foot he
theorem LaysOf.keep {lo hi : Nat} {w w' : World} {vs : List Value} {css : List (List Value)} {ls : List (List (List Int × Int))} (h : LaysOf lo hi w vs css ls) (hb : ∀ g, FootL vs css ls g → w'.heap[g]? = w.heap[g]?) : LaysOf lo hi w' vs css ls :=
  ⟨h.1, h.2.1, fun i hi => (h.2.2.1 i hi).keep fun g hg => hb g ⟨i, hi, hg⟩, h.2.2.2⟩
theorem LaysOf.mono {lo hi lo' hi' : Nat} {w : World} {vs : List Value} {css : List (List Value)} {ls : List (List (List Int × Int))} (h : LaysOf lo hi w vs css ls) (h1 : lo' ≤ lo) (h2 : hi ≤ hi') : LaysOf lo' hi' w vs css ls :=
  ⟨h.1, h.2.1, fun i hi => (h.2.2.1 i hi).widen h1 h2, h.2.2.2⟩
theorem LaysOf.below {lo hi : Nat} {w w' : World} {vs : List Value} {css : List (List Value)} {ls : List (List (List Int × Int))} (h : LaysOf lo hi w vs css ls) (hb : Below w.heap.size w w') : LaysOf lo hi w' vs css ls :=
  h.keep fun g hg => hb.block g (h.foot hg).2.2
theorem LaysOf.snoc {lo hi hi' : Nat} {w : World} {vs : List Value} {css : List (List Value)} {ls : List (List (List Int × Int))} {v : Value} {cs : List Value} {ps : List (List Int × Int)} (h : LaysOf lo hi w vs css ls) (hc : OwnK hi hi' w v ps cs) (h1 : lo ≤ hi) (h2 : hi ≤ hi') :
    LaysOf lo hi' w (vs ++ [v]) (css ++ [cs]) (ls ++ [ps]) := by
  obtain ⟨hl, hl2, ho, hd⟩ := h
  refine ⟨by simp [hl], by simp [hl2], fun i hi' => ?_, fun i j hij hj g hg => ?_⟩
  · by_cases e : i < ls.length
    · rw [getD_snoc_lt _ _ _ _ e, getD_snoc_lt _ _ _ _ (by omega), getD_snoc_lt _ _ _ _ (by omega)]
      exact (ho i e).widen (Nat.le_refl _) h2
    · have : i = ls.length := by simp at hi'; omega
      rw [getD_snoc_eq _ _ _ _ this, getD_snoc_eq _ _ _ _ (by omega), getD_snoc_eq _ _ _ _ (by omega)]
      exact hc.widen h1 (Nat.le_refl _)
  · by_cases e : j < ls.length
    · rw [getD_snoc_lt _ _ _ _ (by omega), getD_snoc_lt _ _ _ _ (by omega), getD_snoc_lt _ _ _ _ (by omega)] at hg ⊢
      exact hd i j hij e g hg
    · have : j = ls.length := by simp at hj; omega
      rw [getD_snoc_lt _ _ _ _ (by omega), getD_snoc_lt _ _ _ _ (by omega), getD_snoc_lt _ _ _ _ (by omega)] at hg
      rw [getD_snoc_eq _ _ _ _ this, getD_snoc_eq _ _ _ _ (by omega), getD_snoc_eq _ _ _ _ (by omega)]
      intro hg'
      have h3 := ((ho i (by omega)).foot hg).2.1
      have h4 := (hc.foot hg').1
      omega

/-- A slice of slices of planes. -/
def OwnLK (lo hi : Nat) (w : World) (v : Value) (ls : List (List (List Int × Int))) (vs : List Value) (css : List (List Value)) : Prop :=
  w.ownsRow lo 72 1 v ls.length vs ∧ (∀ g, v.ownBlock = some g → g < hi) ∧ LaysOf lo hi w vs css ls
def OwnL (lo hi : Nat) (w : World) (v : Value) (ls : List (List (List Int × Int))) : Prop := ∃ vs css, OwnLK lo hi w v ls vs css
/-- The slice with this address reads as these lists of planes. -/
def ReadsL (w : World) (a : Option Addr) (ls : List (List (List Int × Int))) : Prop :=
  ls = [] ∨ ∃ b off, a = some ⟨b, off, none⟩ ∧ b < w.heap.size ∧ ∀ k, k < ls.length → ∃ p c, w.cell? ⟨b, off + k, none⟩ = some (.slice p (ls.getD k []).length c) ∧ (ls.getD k []).length ≤ c ∧ ReadsJ w p (ls.getD k [])
theorem ReadsL.at {w : World} {a : Option Addr} {ls : List (List (List Int × Int))} (h : ReadsL w a ls) {k : Nat} (hk : k < ls.length) :
    ∃ b off p c, a = some ⟨b, off, none⟩ ∧ b < w.heap.size ∧ w.cell? ⟨b, off + k, none⟩ = some (.slice p (ls.getD k []).length c) ∧ (ls.getD k []).length ≤ c ∧ ReadsJ w p (ls.getD k []) := by
  rcases h with rfl | ⟨b, off, e, hb, hc⟩
  · simp at hk
  · obtain ⟨p, c, h1, h2, h3⟩ := hc k hk
    exact ⟨b, off, p, c, e, hb, h1, h2, h3⟩
theorem ReadsL.below {w w' : World} {a : Option Addr} {ls : List (List (List Int × Int))} (h : ReadsL w a ls) (hb : Below w.heap.size w w') : ReadsL w' a ls := by
  rcases h with rfl | ⟨b, off, e, hlt, hc⟩
  · exact .inl rfl
  · refine .inr ⟨b, off, e, Nat.lt_of_lt_of_le hlt hb.size, fun i hi => ?_⟩
    obtain ⟨p, c, h1, h2, h3⟩ := hc i hi
    exact ⟨p, c, cell_below hb h1 hlt, h2, h3.below hb⟩
theorem OwnL.nil (lo hi : Nat) (w : World) : OwnL lo hi w (.slice none 0 0) [] := ⟨[], [], World.ownsRow_nil w lo _ 1, fun g hg => by simp [Value.ownBlock] at hg, LaysOf.nil _ _ _⟩
theorem OwnL.lt {lo hi : Nat} {w : World} {v : Value} {ls : List (List (List Int × Int))} (h : OwnL lo hi w v ls) {g : Nat} (hg : v.ownBlock = some g) : lo ≤ g ∧ g < hi ∧ g < w.heap.size := by
  obtain ⟨vs, css, h1, h2, _⟩ := h
  exact ⟨(h1.lt g hg).1, h2 g hg, (h1.lt g hg).2⟩
theorem OwnL.mono {lo hi lo' hi' : Nat} {w : World} {v : Value} {ls : List (List (List Int × Int))} (h : OwnL lo hi w v ls) (h1 : lo' ≤ lo) (h2 : hi ≤ hi') : OwnL lo' hi' w v ls := by
  have hl := fun g hg => h.lt (g := g) hg
  obtain ⟨vs, css, h3, h4, h5⟩ := h
  exact ⟨vs, css, ownsRow_base h3 (fun g hg => Nat.le_trans h1 (hl g hg).1), fun g hg => Nat.lt_of_lt_of_le (h4 g hg) h2, h5.mono h1 h2⟩
theorem OwnL.only {lo hi lo' hi' : Nat} {w w' : World} {v : Value} {ls : List (List (List Int × Int))} (h : OwnL lo hi w v ls) (ho : Only lo' hi' w w') (hd : hi ≤ lo' ∨ hi' ≤ lo) : OwnL lo hi w' v ls := by
  have hl := fun g hg => h.lt (g := g) hg
  obtain ⟨vs, css, h3, h4, h5⟩ := h
  exact ⟨vs, css, ownsRow_block h3 (fun g hg => by have := hl g hg; exact ho.block g this.2.2 (by omega)), h4, h5.keep fun g hg => by have := h5.foot hg; exact ho.block g this.2.2 (by omega)⟩
theorem OwnL.below {lo hi : Nat} {w w' : World} {v : Value} {ls : List (List (List Int × Int))} (h : OwnL lo hi w v ls) (hb : Below w.heap.size w w') : OwnL lo hi w' v ls := by
  have hl := fun g hg => h.lt (g := g) hg
  obtain ⟨vs, css, h3, h4, h5⟩ := h
  exact ⟨vs, css, ownsRow_block h3 (fun g hg => hb.block g (hl g hg).2.2), h4, h5.below hb⟩
theorem OwnL.block' {lo hi : Nat} {w w' : World} {v : Value} {ls : List (List (List Int × Int))} (h : OwnL lo hi w v ls) (hb : ∀ g, lo ≤ g → g < hi → w'.heap[g]? = w.heap[g]?) : OwnL lo hi w' v ls := by
  have hl := fun g hg => h.lt (g := g) hg
  obtain ⟨vs, css, h3, h4, h5⟩ := h
  exact ⟨vs, css, ownsRow_block h3 (fun g hg => hb g (hl g hg).1 (hl g hg).2.1), h4, h5.keep fun g hg => by have := h5.foot hg; exact hb g this.1 this.2.1⟩
theorem OwnL.set {lo hi : Nat} {w : World} {v : Value} {ls : List (List (List Int × Int))} (h : OwnL lo hi w v ls) {a : Addr} (ha : a.block < lo) (u : Value) : OwnL lo hi (w.setCell a u) v ls :=
  h.block' (fun g h1 _ => Below.heap_setCell _ _ _ _ (by omega))
/-- What it is as a value. -/
theorem OwnL.slice {lo hi : Nat} {w : World} {v : Value} {ls : List (List (List Int × Int))} (h : OwnL lo hi w v ls) : ∃ a c, v = .slice a ls.length c ∧ ReadsL w a ls ∧ ls.length ≤ c ∧ ls.length ≤ maxLen := by
  obtain ⟨vs, css, h1, h2, hl, hl2, ho, hd⟩ := h
  rcases h1.2 with ⟨rfl, h0⟩ | ⟨g, cap, cur, rfl, hb, hh, hn, hm, hs, ht⟩
  · have : ls = [] := List.length_eq_zero_iff.1 h0
    subst this
    exact ⟨none, 0, rfl, .inl rfl, Nat.le_refl _, by simp⟩
  · refine ⟨some ⟨g, 0, none⟩, cap, rfl, .inr ⟨g, 0, rfl, (Array.getElem?_eq_some_iff.1 hh).1, fun i hi' => ?_⟩, hn, by omega⟩
    obtain ⟨p, c, hv, hr, hc, _⟩ := (show OwnJ lo hi w (vs.getD i undef) (ls.getD i []) from ⟨_, ho i hi'⟩).slice
    have hx := h1.cells (g := g) rfl i (vs.getD i undef) (by rw [List.getD_eq_getElem?_getD, List.getElem?_eq_getElem (by omega)]; simp)
    rw [Go.WideShapes.add_plain, hv] at hx
    exact ⟨p, c, hx, hc, hr⟩
theorem OwnL.reads {lo hi : Nat} {w : World} {a : Option Addr} {n c : Nat} {ls : List (List (List Int × Int))} (h : OwnL lo hi w (.slice a n c) ls) : ReadsL w a ls := by
  obtain ⟨a', c', e, hr, _, _⟩ := h.slice
  cases e
  exact hr
theorem take_snocL (ls : List (List (List Int × Int))) (k : Nat) (h : k < ls.length) : ls.take (k + 1) = ls.take k ++ [ls.getD k []] := by
  rw [List.take_succ_eq_append_getElem h, List.getD_eq_getElem?_getD, List.getElem?_eq_getElem h]; rfl
/-- A slice made at its whole length whose first k lists are filled. -/
def OwnPartL (lo g : Nat) (w : World) (ls : List (List (List Int × Int))) (k : Nat) : Prop :=
  ∃ vs css, w.ownsRow lo 72 1 (.slice (some ⟨g, 0, none⟩) ls.length ls.length) ls.length (vs ++ List.replicate (ls.length - k) (.slice none 0 0)) ∧ LaysOf lo w.heap.size w vs css (ls.take k) ∧ k ≤ ls.length
theorem OwnPartL.start {lo g : Nat} {w : World} {ls : List (List (List Int × Int))} (h : w.ownsRow lo 72 1 (.slice (some ⟨g, 0, none⟩) ls.length ls.length) ls.length (List.replicate ls.length (.slice none 0 0))) : OwnPartL lo g w ls 0 :=
  ⟨[], [], by simpa using h, by simpa using LaysOf.nil _ _ _, Nat.zero_le _⟩
theorem OwnPartL.done {lo g : Nat} {w : World} {ls : List (List (List Int × Int))} (h : OwnPartL lo g w ls ls.length) : OwnL lo w.heap.size w (.slice (some ⟨g, 0, none⟩) ls.length ls.length) ls := by
  obtain ⟨vs, css, h1, h2, _⟩ := h
  rw [List.take_length] at h2
  exact ⟨vs, css, by simpa using h1, fun g' hg => (h1.lt g' hg).2, h2⟩
theorem OwnPartL.store {lo g : Nat} {w w2 : World} {ls : List (List (List Int × Int))} {k : Nat} {v : Value} (h : OwnPartL lo g w ls k) (hlt : k < ls.length) (hb : Below w.heap.size w w2) (hv : OwnJ w.heap.size w2.heap.size w2 v (ls.getD k [])) :
    w2.cell? ⟨g, k, none⟩ = some (.slice none 0 0) ∧ w2.frozen? ⟨g, k, none⟩ = false ∧ OwnPartL lo g (w2.setCell ⟨g, k, none⟩ v) ls (k + 1) := by
  obtain ⟨vs, css, h1, h2, h3⟩ := h
  obtain ⟨cs, hv⟩ := hv
  have hg := (h1.lt g rfl)
  have hcl : vs.length = k := by have := h2.1; simp at this; omega
  have h1' := ownsRow_block (w' := w2) h1 (fun g' hg' => hb.block g' (h1.lt g' hg').2)
  have hst := (h1'.stored k v).1
  have h2' := h2.below hb
  refine ⟨?_, h1'.frozenAt k, vs ++ [v], css ++ [cs], ?_, ?_, by omega⟩
  · rw [h1'.cellAt k (by omega), List.getElem?_append_right (by omega), hcl, Nat.sub_self, List.getElem?_replicate, if_pos (by omega)]
  · have e : (vs ++ List.replicate (ls.length - k) (Value.slice none 0 0)).set k v = vs ++ [v] ++ List.replicate (ls.length - (k + 1)) (.slice none 0 0) := by
      rw [List.set_append, if_neg (by omega), hcl, Nat.sub_self, show ls.length - k = (ls.length - (k + 1)) + 1 by omega, List.replicate_succ, List.set_cons_zero, List.append_assoc]
      rfl
    rw [e] at hst
    exact hst
  · rw [take_snocL ls k hlt, size_set]
    have k1 := h2'.keep (w' := w2.setCell ⟨g, k, none⟩ v) fun g' hf => Below.heap_setCell _ _ _ _ fun e => by
      obtain ⟨i, hi, he⟩ := hf
      exact (h2'.2.2.1 i hi).apart h1' (g := g) rfl (by have e2 : g' = g := e; rw [← e2]; exact he)
    have k2 := hv.keep (w' := w2.setCell ⟨g, k, none⟩ v) fun g' hf => Below.heap_setCell _ _ _ _ fun e => hv.apart h1' (g := g) rfl (by have e2 : g' = g := e; rw [← e2]; exact hf)
    exact k1.snoc k2 (by omega) hb.size

/-- What all of it counts. -/
def totL (ls : List (List (List Int × Int))) : Nat := (ls.map fun ps => ps.length + planesfns.totJ ps).sum
theorem totL_zero (ls : List (List (List Int × Int))) : totL (ls.take 0) = 0 := rfl
theorem totL_succ (ls : List (List (List Int × Int))) (k : Nat) (h : k < ls.length) : totL (ls.take (k + 1)) = totL (ls.take k) + ((ls.getD k []).length + planesfns.totJ (ls.getD k [])) := by
  unfold totL
  rw [take_snocL _ _ h, List.map_append, List.sum_append]
  simp only [List.map_cons, List.map_nil, List.sum_cons, List.sum_nil, Nat.add_zero]
theorem totL_take_le (ls : List (List (List Int × Int))) (k : Nat) : totL (ls.take k) ≤ totL ls := by
  induction ls generalizing k with
  | nil => simp [totL]
  | cons x r ih =>
    cases k with
    | zero => simp [totL]
    | succ k =>
      have := ih k
      simp only [totL, List.take_succ_cons, List.map_cons, List.sum_cons] at *
      omega
theorem totL_all (ls : List (List (List Int × Int))) : totL (ls.take ls.length) = totL ls := by rw [List.take_length]
theorem len_le_totL (ls : List (List (List Int × Int))) (s : List (List Int × Int)) (h : s ∈ ls) : s.length + planesfns.totJ s ≤ totL ls := by
  induction ls with
  | nil => cases h
  | cons x r ih =>
    simp only [totL, List.map_cons, List.sum_cons] at *
    cases List.mem_cons.1 h with
    | inl e => subst e; omega
    | inr e => have := ih e; omega
theorem getD_le_totL (ls : List (List (List Int × Int))) (k : Nat) : (ls.getD k []).length + planesfns.totJ (ls.getD k []) ≤ totL ls := by
  by_cases h : k < ls.length
  · have h1 := totL_succ ls k h
    have h2 := totL_take_le ls (k + 1)
    omega
  · rw [List.getD_eq_getElem?_getD, List.getElem?_eq_none (by omega)]; simp [planesfns.totJ, grid.tot]

/-- The marks of lists of planes, from a number on. -/
def mkL (K : Nat) (ls : List (List (List Int × Int))) (i : Nat) : List (List Int × Int) := planesfns.markJ (K + totL (ls.take i)) (ls.getD i [])
def markPartL (K : Nat) (ls : List (List (List Int × Int))) (k : Nat) : List (List (List Int × Int)) := (List.range ls.length).map fun i => if i < k then mkL K ls i else ls.getD i []
def markL (K : Nat) (ls : List (List (List Int × Int))) : List (List (List Int × Int)) := markPartL K ls ls.length
theorem markPartL_length (K : Nat) (ls : List (List (List Int × Int))) (k : Nat) : (markPartL K ls k).length = ls.length := by simp [markPartL]
theorem markPartL_getD (K : Nat) (ls : List (List (List Int × Int))) (k i : Nat) (h : i < ls.length) : (markPartL K ls k).getD i [] = if i < k then mkL K ls i else ls.getD i [] := by
  rw [List.getD_eq_getElem?_getD]; simp [markPartL, h]
theorem markPartL_zero (K : Nat) (ls : List (List (List Int × Int))) : markPartL K ls 0 = ls := by
  apply List.ext_getElem?
  intro i
  by_cases h : i < ls.length
  · have := markPartL_getD K ls 0 i h
    rw [List.getD_eq_getElem?_getD, List.getElem?_eq_getElem (by rw [markPartL_length]; exact h)] at this
    rw [List.getElem?_eq_getElem (by rw [markPartL_length]; exact h), List.getElem?_eq_getElem h]
    simp [List.getElem?_eq_getElem h] at this
    rw [this]
  · rw [List.getElem?_eq_none (by rw [markPartL_length]; omega), List.getElem?_eq_none (by omega)]
theorem markL_length (K : Nat) (ls : List (List (List Int × Int))) : (markL K ls).length = ls.length := markPartL_length _ _ _
theorem markL_getD (K : Nat) (ls : List (List (List Int × Int))) (i : Nat) (h : i < ls.length) : (markL K ls).getD i [] = mkL K ls i := by
  unfold markL; rw [markPartL_getD _ _ _ _ h, if_pos h]
theorem mkL_length (K : Nat) (ls : List (List (List Int × Int))) (i : Nat) : (mkL K ls i).length = (ls.getD i []).length := by unfold mkL; exact planesfns.markJ_length _ _
theorem markPartL_len (K : Nat) (ls : List (List (List Int × Int))) (k i : Nat) (h : i < ls.length) : ((markPartL K ls k).getD i []).length = (ls.getD i []).length := by
  rw [markPartL_getD _ _ _ _ h]; split
  · exact mkL_length _ _ _
  · rfl
/-- One more list is marked. -/
theorem LaysOf.mark {lo hi K k : Nat} {w w' : World} {vs : List Value} {css : List (List Value)} {ls : List (List (List Int × Int))} (h : LaysOf lo hi w vs css (markPartL K ls k)) (hk : k < ls.length)
    (hm : OwnK lo hi w' (vs.getD k undef) (mkL K ls k) (css.getD k [])) (hg : Stir (FootJ (vs.getD k undef) (css.getD k []) (ls.getD k []).length) w w') : LaysOf lo hi w' vs css (markPartL K ls (k + 1)) := by
  obtain ⟨h1, h2, h3, h4⟩ := h
  rw [markPartL_length] at h1 h2 h3 h4
  refine ⟨by rw [markPartL_length]; exact h1, by rw [markPartL_length]; exact h2, fun i hi => ?_, fun i j hij hj g => ?_⟩
  · rw [markPartL_length] at hi
    rw [markPartL_getD _ _ _ _ hi]
    by_cases e : i = k
    · subst e
      rw [if_pos (by omega)]
      exact hm
    · have := h3 i hi
      rw [markPartL_getD _ _ _ _ hi] at this
      simp only [show (i < k + 1) ↔ (i < k) from by omega]
      have hlen : (if i < k then mkL K ls i else ls.getD i []).length = (ls.getD i []).length := by
        rw [← markPartL_getD _ _ _ _ hi]; exact markPartL_len _ _ _ _ hi
      refine this.keep fun g hgi => hg.block g (this.foot hgi).2.2 fun e2 => ?_
      rw [hlen] at hgi
      rcases Nat.lt_or_gt_of_ne e with hl | hl
      · exact h4 i k hl hk g (by rw [markPartL_len _ _ _ _ hi]; exact hgi) (by rw [markPartL_len _ _ _ _ hk]; exact e2)
      · exact h4 k i hl hi g (by rw [markPartL_len _ _ _ _ hk]; exact e2) (by rw [markPartL_len _ _ _ _ hi]; exact hgi)
  · rw [markPartL_length] at hj
    have := h4 i j hij hj g
    rw [markPartL_len _ _ _ _ (by omega), markPartL_len _ _ _ _ hj] at this ⊢
    exact this
/-- What a function returns: a net that it made, and a truth value. -/
def RetTB (ls : List (List (List Int × Int))) (n : Int) (ok : Bool) (w : World) (e : Ending) (w' : World) : Prop := ∃ v, e = .returned (.tuple #[.agg #[.int .i64 n, v], .bool ok]) ∧ OwnL w.heap.size w'.heap.size w' v ls ∧ Below w.heap.size w w'
end Go.Proofs.Ytoephhhofkmgjab.own

namespace Go.Proofs.Ytoephhhofkmgjab.planesfns
open Go.RowKit own
set_option linter.unusedVariables false
set_option linter.unusedSimpArgs false
set_option maxHeartbeats 2000000 in
theorem mark_stir (lo hi : Nat) (a : Option Addr) (c : Nat) (ps : List (List Int × Int)) (cs : List Value) (K : Nat) (w : World) (h : OwnK lo hi w (.slice a ps.length c) ps cs) (h2 : K + totJ ps + ps.length ≤ 4611686018427387904) (hn : ps.length ≤ 9223372036854775807) :
    Calls Try.prog 87 #[.slice a ps.length c, .int .i64 K] w fun e w' => e = .returned (.int .i64 (K + totJ ps + ps.length : Nat)) ∧ OwnK lo hi w' (.slice a ps.length c) (markJ K ps) cs ∧ Stir (FootJ (.slice a ps.length c) cs ps.length) w w' := by
  obtain ⟨h1, hblk, h5⟩ := h
  have HBK := Lib.hid hblk
  have H1 := Lib.hid (show w.ownsRow lo 46 2 (.slice a ps.length c) ps.length (flatJ cs (markPartJ K ps 0)) by rw [markPartJ_zero]; exact h1)
  have H5 := Lib.hid (show RowsOf lo hi w cs ((markPartJ K ps 0).map Prod.fst) by rw [markPartJ_zero]; exact h5)
  have hcl : cs.length = ps.length := by have := h5.1; rw [List.length_map] at this; exact this
  clear hblk h1 h5
  have HCL := Lib.hid hcl
  clear hcl
  go_enter Try.func87, Try.ntmps87
  go_wp2_with fail
  go_loopw [1, 5] (fun q i wr => ∃ k : Nat, k ≤ ps.length ∧ i = .int .i64 k ∧ q = .int .i64 (K + totJ (ps.take k) + k : Nat) ∧ wr.ownsRow lo 46 2 (.slice a ps.length c) ps.length (flatJ cs (markPartJ K ps k)) ∧ RowsOf lo hi wr cs ((markPartJ K ps k).map Prod.fst) ∧ Stir (FootJ (.slice a ps.length c) cs ps.length) w wr) (fun _ i _ => ps.length - (intOf i).toNat)
  case atStart => exact ⟨0, Nat.zero_le _, rfl, by simp [totJ, grid.tot], H1.out, H5.out, Stir.refl _ _⟩
  case round =>
    obtain ⟨k, hk, rfl, rfl, ho, hrow, hon⟩ := hrel
    by_cases hlt : k < ps.length
    · have hoi := hrow.2.1 k (by rw [List.length_map, markPartJ_length]; exact hlt)
      rw [wsJ_getD, markPartJ_getD _ _ _ _ hlt, if_neg (by omega)] at hoi
      obtain ⟨p, q, hv, hrd, hpc, hml⟩ := hoi.slice
      obtain ⟨g, rfl⟩ : ∃ g, a = some ⟨g, 0, none⟩ := by
        rcases ho.2 with ⟨e, h0⟩ | ⟨g, cap, cur, e, hl, hh, hn', hm, hs, ht⟩
        · omega
        · cases e; exact ⟨g, rfl⟩
      have hat := flatJ_at cs (markPartJ K ps k) (by rw [markPartJ_length]; exact HCL.out) k (by rw [markPartJ_length]; exact hlt)
      rw [markPartJ_getD _ _ _ _ hlt, if_neg (by omega), hv] at hat
      have hc : wr.cell? ⟨g, k * 2, none⟩ = some (.slice p (ps.getD k ([], 0)).1.length q) := by rw [ho.cellAt (k * 2) (by omega)]; exact hat.1
      have hd : wr.cell? ⟨g, k * 2 + 1, none⟩ = some (.int .i64 (ps.getD k ([], 0)).2) := by rw [ho.cellAt (k * 2 + 1) (by omega)]; exact hat.2
      have hgw := ho.lt g rfl
      have hgh := HBK.out g rfl
      clear hat hrd
      have HT := Lib.hid (totJ_succ ps k hlt)
      have hle := totJ_take_le ps (k + 1)
      rw [HT.out] at hle
      have HO := Lib.hid ho
      have HR := Lib.hid hrow
      have HN := Lib.hid hon
      have HV := Lib.hid hv
      rw [hv] at hoi
      clear ho hrow hon hv
      have HI := Lib.hid hoi
      clear hoi
      have HM := Lib.hid (show mkJ K ps k = (intfns.marks (K + totJ (ps.take k) + k) (ps.getD k ([], 0)).1.length, ((K + totJ (ps.take k) + k + (ps.getD k ([], 0)).1.length : Nat) : Int)) from rfl)
      generalize hx : totJ (ps.take k) = x at *
      generalize hs : (ps.getD k ([], 0)).1 = s at *
      generalize hs2 : (ps.getD k ([], 0)).2 = z at *
      clear hs hx hs2
      go_wp2_with fail
      refine (intfns.mark_any lo hi _ _ s (K + x + k) wr HI.out (by omega)).mono ?_
      rintro e w2 ⟨rfl, hoi2, hg2⟩
      have hIlt : ∀ gg, (Value.slice p s.length q).ownBlock = some gg → lo ≤ gg ∧ gg < hi ∧ gg < wr.heap.size := fun gg e => HI.out.lt e
      have hne : ∀ gg, (Value.slice p s.length q).ownBlock = some gg → gg ≠ g := fun gg e1 e2 => by
        subst e2
        exact ownsRow_ne HI.out.1 HO.out (by decide) e1 rfl
      have hgr := hg2 _ rfl
      have HG2 := Lib.hid hgr
      have ho2 := ownsRow_block (w' := w2) HO.out (fun g' hg' => by
        obtain rfl : g = g' := by simpa [Value.ownBlock] using hg'
        exact hgr.block g hgw.2 fun e => hne g e.symm rfl)
      have hc2 : w2.cell? ⟨g, k * 2 + 1, none⟩ = some (.int .i64 z) := (World.cell?_of_block (hgr.block g hgw.2 fun e => hne g e.symm rfl)).trans hd
      have hf2 := ho2.frozenAt (k * 2 + 1)
      have hst := (ho2.stored (k * 2 + 1) (.int .i64 ((K + x + k + s.length : Nat) : Int))).1
      have HST := Lib.hid hst
      have HI2 := Lib.hid hoi2
      have HNE := Lib.hid hne
      have HIL := Lib.hid hIlt
      have s2 := hgr.size
      clear hoi2 hg2 hgr ho2 hst hne hIlt
      go_wp2_with fail
      go_roundw
      case rel =>
        have e1 : Stir (FootJ (.slice (some ⟨g, 0, none⟩) ps.length c) cs ps.length) wr w2 := Stir.of_grown HG2.out fun g' hg' => .inr ⟨k, hlt, by rw [HV.out]; exact hg'⟩
        refine ⟨k + 1, by omega, by go_num, by rw [HT.out]; go_num, ?_, ?_, ?_⟩
        · have := flatJ_put cs (markPartJ K ps k) (markPartJ K ps (k + 1)) k (by rw [markPartJ_length]; exact HCL.out) (by rw [markPartJ_length, markPartJ_length]) (by rw [markPartJ_length]; exact hlt) (fun i hi' hne => by
            rw [markPartJ_length] at hi'
            rw [markPartJ_getD _ _ _ _ hi', markPartJ_getD _ _ _ _ hi']
            simp only [show (i < k + 1) ↔ (i < k) from by omega])
          rw [markPartJ_getD _ _ _ _ hlt, if_pos (by omega), HM.out] at this
          rw [← this]
          exact HST.out
        · refine RowsOf.put (k := k) (rows := (markPartJ K ps k).map Prod.fst) (w := wr) HR.out (by simp [markPartJ_length]) (by simpa [markPartJ_length] using hlt) ?_ ?_ ?_
          · rw [wsJ_getD, markPartJ_getD _ _ _ _ hlt, if_pos (by omega), HM.out, HV.out]
            exact HI2.out.block fun g' e => Below.heap_setCell _ _ _ _ (HNE.out g' e)
          · intro i hi' hne
            rw [List.length_map, markPartJ_length] at hi'
            rw [wsJ_getD, wsJ_getD, markPartJ_getD _ _ _ _ hi', markPartJ_getD _ _ _ _ hi']
            simp only [show (i < k + 1) ↔ (i < k) from by omega]
          · rintro g' hg' ⟨i, hi', hne, he⟩
            have hri := HR.out.2.1 i hi'
            have hng : g' ≠ g := fun e2 => by subst e2; exact ownsRow_ne hri.1 HO.out (by decide) he rfl
            refine (Below.heap_setCell _ _ _ _ hng).trans (HG2.out.block g' hg' fun e2 => ?_)
            rw [List.length_map, markPartJ_length] at hi'
            rcases Nat.lt_or_gt_of_ne hne with hl | hl
            · exact HR.out.2.2 i k hl (by simpa [markPartJ_length] using hlt) g' he (by rw [HV.out]; exact e2.symm)
            · exact HR.out.2.2 k i hl (by simpa [markPartJ_length] using hi') g' (by rw [HV.out]; exact e2.symm) he
        · refine (HN.out.trans e1).trans ⟨rfl, rfl, rfl, by rw [size_set]; exact Nat.le_refl _, fun k' hk' ho' => Below.heap_setCell _ _ _ _ (fun e2 => ?_)⟩
          have e3 : k' = g := e2
          exact ho' (.inl (by rw [e3]; rfl))
      case measure => simp [intOf]; omega
    · obtain rfl : k = ps.length := by omega
      have HF := Lib.hid (show OwnK lo hi wr (.slice a ps.length c) (markJ K ps) cs from ⟨by rw [markJ_length]; exact ho, HBK.out, hrow⟩)
      have HN := Lib.hid hon
      clear ho hrow hon
      rw [totJ_all]
      go_wp2_with fail
      go_ret
      exact ⟨rfl, HF.out, HN.out⟩
end Go.Proofs.Ytoephhhofkmgjab.planesfns
namespace Go.Proofs.Ytoephhhofkmgjab.laysfns
open Go.RowKit own
set_option linter.unusedVariables false
set_option linter.unusedSimpArgs false
set_option maxHeartbeats 1000000 in
theorem sz_yes (a : Option Addr) (ls : List (List (List Int × Int))) (c : Nat) (left : Int) (w : World) (hr : ReadsL w a ls)
    (h0 : (ls.length : Int) + (totL ls : Int) ≤ left) (h1 : left ≤ 1048576) :
    Calls Try.prog 51 #[.slice a ls.length c, .int .i64 left] w fun e w' => e = .returned (.int .i64 (left - ls.length - totL ls)) ∧ Below w.heap.size w w' := by
  go_enter Try.func51, Try.ntmps51
  go_wp2
  go_loopw [1, 5] (fun l i wr => ∃ k : Nat, k ≤ ls.length ∧ i = .int .i64 k ∧ l = .int .i64 (left - ls.length - totL (ls.take k)) ∧ Below w.heap.size w wr) (fun _ i _ => ls.length - (intOf i).toNat)
  case atStart => exact ⟨0, Nat.zero_le _, rfl, by simp [totL], Below.refl _ _⟩
  case round =>
    obtain ⟨k, hk, rfl, rfl, hbel⟩ := hrel
    by_cases hlt : k < ls.length
    · obtain ⟨b, off, p, c', rfl, hb, hc, _, hrow⟩ := (hr.below hbel).at hlt
      have HS := Lib.hid (totL_succ ls k hlt)
      have hle := totL_take_le ls (k + 1)
      rw [HS.out] at hle
      have HB := Lib.hid hbel
      have hsz := hbel.size
      clear hbel
      generalize hx : totL (ls.take k) = x at *
      generalize hs : ls.getD k [] = s at *
      clear hx hs
      go_wp2_with fail
      refine (planesfns.sz_yes _ s _ _ _ hrow (by omega) (by omega)).mono ?_
      rintro e w' ⟨rfl, hb2⟩
      have HB2 := Lib.hid (HB.out.trans (hb2.mono hsz))
      clear hb2 hrow
      go_wp2_with fail
      go_roundw
      case rel => exact ⟨k + 1, by omega, by go_num, by rw [HS.out]; go_num, HB2.out⟩
      case measure => simp [intOf]; omega
    · have : k = ls.length := by omega
      subst this
      rw [totL_all]
      have HB := Lib.hid hbel
      clear hbel
      go_wp2
      go_ret
      exact ⟨rfl, HB.out⟩

set_option maxHeartbeats 1000000 in
theorem sz_no (a : Option Addr) (ls : List (List (List Int × Int))) (c : Nat) (left : Int) (w : World) (hr : ReadsL w a ls) (hl : ls.length ≤ 9223372036854775807) (hs : ∀ x ∈ ls, x.length ≤ 9223372036854775807 ∧ ∀ y ∈ x, y.1.length ≤ 9223372036854775807)
    (h0 : left < (ls.length : Int) + (totL ls : Int)) (h1 : left ≤ 1048576) (h2 : 0 ≤ left) :
    Calls Try.prog 51 #[.slice a ls.length c, .int .i64 left] w fun e w' => e = .returned (.int .i64 (-1)) ∧ Below w.heap.size w w' := by
  by_cases hn : left < (ls.length : Int)
  · go_enter Try.func51, Try.ntmps51
    go_wp2_with fail
    go_ret
    exact ⟨rfl, Below.refl _ _⟩
  go_enter Try.func51, Try.ntmps51
  go_wp2
  go_loopw [1, 5] (fun l i wr => ∃ k : Nat, k ≤ ls.length ∧ i = .int .i64 k ∧ l = .int .i64 (left - ls.length - totL (ls.take k)) ∧ (totL (ls.take k) : Int) ≤ left - ls.length ∧ Below w.heap.size w wr) (fun _ i _ => ls.length - (intOf i).toNat)
  case atStart => exact ⟨0, Nat.zero_le _, rfl, by simp [totL], by simp [totL]; omega, Below.refl _ _⟩
  case round =>
    obtain ⟨k, hk, rfl, rfl, hx0, hbel⟩ := hrel
    by_cases hlt : k < ls.length
    · obtain ⟨b, off, p, c', rfl, hb, hc, _, hrow⟩ := (hr.below hbel).at hlt
      have HS := Lib.hid (totL_succ ls k hlt)
      obtain ⟨hsz, hsx⟩ := hs (ls.getD k []) (by rw [List.getD_eq_getElem?_getD, List.getElem?_eq_getElem hlt]; simp)
      have HSX := Lib.hid hsx
      have HB := Lib.hid hbel
      have hwz := hbel.size
      clear hbel hsx
      generalize hx : totL (ls.take k) = x at *
      generalize hs' : ls.getD k [] = s at *
      clear hx hs' hs
      by_cases hlong : left - ls.length - (x : Int) - ((s.length : Int) + (planesfns.totJ s : Int)) < 0
      · go_wp2_with fail
        refine (planesfns.sz_no _ s _ _ _ hrow (by omega) HSX.out (by omega) (by omega) (by omega)).mono ?_
        rintro e w' ⟨rfl, hb2⟩
        have HB2 := Lib.hid (HB.out.trans (hb2.mono hwz))
        clear hb2 hrow
        go_wp2_with fail
        go_ret
        exact ⟨rfl, HB2.out⟩
      · go_wp2_with fail
        refine (planesfns.sz_yes _ s _ _ _ hrow (by omega) (by omega)).mono ?_
        rintro e w' ⟨rfl, hb2⟩
        have HB2 := Lib.hid (HB.out.trans (hb2.mono hwz))
        clear hb2 hrow
        go_wp2_with fail
        go_roundw
        case rel => exact ⟨k + 1, by omega, by go_num, by rw [HS.out]; go_num, by rw [HS.out]; omega, HB2.out⟩
        case measure => simp [intOf]; omega
    · have : k = ls.length := by omega
      subst this
      rw [totL_all] at hx0
      omega

theorem below_of3 {b o b' o' : Nat} {x x' : Value} {w wr wa : World} (hB : Below w.heap.size w wr) (h : wa.cell? ⟨b, o, none⟩ = some x ∧ wa.cell? ⟨b', o', none⟩ = some x' ∧ Below wr.heap.size wr wa) : Below w.heap.size w wa := hB.trans (h.2.2.mono hB.size)
/-- What a copy is. -/
def MadeL (ls : List (List (List Int × Int))) (w : World) (e : Ending) (w' : World) : Prop :=
  ∃ v, e = .returned v ∧ OwnL w.heap.size w'.heap.size w' v ls ∧ Below w.heap.size w w'
theorem infoPlaneS : (Try.prog.info? 72).map (fun i => (i.zero, i.size, i.bytes)) = some (some (.slice none 0 0), 1, 24) := by kernel_rfl

set_option maxRecDepth 100000 in
set_option maxHeartbeats 2000000 in
theorem to_any (a : Option Addr) (ls : List (List (List Int × Int))) (c : Nat) (w : World) (hr : ReadsL w a ls) (hn : (ls.length : Int) + (totL ls : Int) ≤ 1048576) :
    Calls Try.prog 55 #[.slice a ls.length c] w (MadeL ls w) := by
  obtain ⟨i0, hi, hz0, hz1, hz2⟩ := info_parts infoPlaneS
  go_enter Try.func55, Try.ntmps55
  go_wp2_with (refine wpList_make_full _ rfl _ _ 34 rfl w.heap.size 72 i0 (.slice none 0 0) 1 Try.underlying34 hi hz0 hz1 .i64 .i64 _ _ ls.length rfl rfl rfl rfl (by rw [hz2]; omega) (by unfold maxLen; omega) (Nat.le_refl _) ?_; intro w1 hown1 hgrow1; refine Hid.out ?_)
  refine Lib.hid ?_
  have hb1 : Below w.heap.size w w1 := (Below.refl _ _).grown hgrow1 (Nat.le_refl _) (by simp)
  rw [show (Value.slice none 0 0).cells = #[Value.slice none 0 0] from rfl, Nat.mul_one, toList_madeCells_one] at hown1
  have hgg := OwnPartL.start hown1
  go_wp2
  go_loopw [4] (fun i wr => ∃ k : Nat, k ≤ ls.length ∧ i = .int .i64 k ∧ OwnPartL w.heap.size w.heap.size wr ls k ∧ Below w.heap.size w wr) (fun i _ => ls.length - (intOf i).toNat)
  case atStart => exact ⟨0, Nat.zero_le _, rfl, hgg, hb1⟩
  case round =>
    obtain ⟨k, hk, rfl, hown, hbel⟩ := hrel
    clear hown1 hgrow1 hb1 hgg
    by_cases hlt : k < ls.length
    · obtain ⟨b, off, p, c', rfl, hb, hc, _, hrow⟩ := (hr.below hbel).at hlt
      have hle := getD_le_totL ls k
      have HO := Lib.hid hown
      have HB := Lib.hid hbel
      have hsz := hbel.size
      clear hown hbel
      generalize hs : ls.getD k [] = s at *
      have HS := Lib.hid hs
      clear hs
      go_wp2_with fail
      refine (planesfns.to_any _ s _ _ hrow (by omega)).mono ?_
      rintro e w2 ⟨v, rfl, hov, hb2⟩
      obtain ⟨p2, q2, hv2, _, _, _⟩ := hov.slice
      subst hv2
      obtain ⟨hcell, hfro, hst⟩ := HO.out.store hlt hb2 (by rw [HS.out]; exact hov)
      have HST := Lib.hid hst
      have HB2 := Lib.hid (HB.out.trans (hb2.mono hsz))
      clear hst hb2 hov hrow
      go_wp2_with fail
      go_roundw
      case rel => exact ⟨k + 1, by omega, by go_num, HST.out, HB2.out.setCell (Nat.le_refl _) _⟩
      case measure => simp [intOf]; omega
    · have : k = ls.length := by omega
      subst this
      have HO := Lib.hid hown.done
      have HB := Lib.hid hbel
      clear hown hbel
      go_wp2
      go_ret
      exact ⟨_, rfl, HO.out, HB.out⟩

set_option maxHeartbeats 1000000 in
theorem eq_same (a a' : Option Addr) (ls : List (List (List Int × Int))) (c c' : Nat) (w : World) (hr : ReadsL w a ls) (hr' : ReadsL w a' ls) (hn : ls.length ≤ 9223372036854775807) (hm : ∀ x ∈ ls, x.length ≤ 9223372036854775807 ∧ ∀ y ∈ x, y.1.length ≤ 9223372036854775807) :
    Calls Try.prog 48 #[.slice a ls.length c, .slice a' ls.length c'] w fun e w' => e = .returned (.bool true) ∧ Below w.heap.size w w' := by
  go_enter Try.func48, Try.ntmps48
  go_wp2
  go_loopw [5] (fun i wr => ∃ k : Nat, k ≤ ls.length ∧ i = .int .i64 k ∧ Below w.heap.size w wr) (fun i _ => ls.length - (intOf i).toNat)
  case atStart => exact ⟨0, Nat.zero_le _, rfl, Below.refl _ _⟩
  case round =>
    obtain ⟨k, hk, rfl, hbel⟩ := hrel
    by_cases hlt : k < ls.length
    · obtain ⟨b, off, p, q, rfl, hb, hc, _, hrow⟩ := (hr.below hbel).at hlt
      obtain ⟨b', off', p', q', rfl, hb', hc', _, hrow'⟩ := (hr'.below hbel).at hlt
      obtain ⟨hsz, hsx⟩ := hm (ls.getD k []) (by rw [List.getD_eq_getElem?_getD, List.getElem?_eq_getElem hlt]; simp)
      have HSX := Lib.hid hsx
      have HB := Lib.hid hbel
      have hws := hbel.size
      clear hbel hsx hm
      generalize hs : ls.getD k [] = s at *
      clear hs
      have HR := Lib.hid hrow
      have HR' := Lib.hid hrow'
      clear hrow hrow'
      have HT := Lib.hid (show ∀ wa : World, (wa.cell? ⟨b, off + k, none⟩ = some (.slice p s.length q) ∧ wa.cell? ⟨b', off' + k, none⟩ = some (.slice p' s.length q') ∧ Below wr.heap.size wr wa) → Calls Try.prog 86 #[.slice p s.length q, .slice p' s.length q'] wa fun e w' => e = .returned (.bool true) ∧ (w'.cell? ⟨b, off + k, none⟩ = some (.slice p s.length q) ∧ w'.cell? ⟨b', off' + k, none⟩ = some (.slice p' s.length q') ∧ Below wr.heap.size wr w') from fun wa hS =>
        (planesfns.eq_same _ _ s _ _ wa (HR.out.below hS.2.2) (HR'.out.below hS.2.2) hsz HSX.out).mono fun _ w' ⟨he, hbx⟩ => ⟨he, (hbx.cell (p := ⟨b, off + k, none⟩) (Nat.lt_of_lt_of_le hb hS.2.2.size)).trans hS.1, (hbx.cell (p := ⟨b', off' + k, none⟩) (Nat.lt_of_lt_of_le hb' hS.2.2.size)).trans hS.2.1, hS.2.2.trans (hbx.mono hS.2.2.size)⟩)
      go_wp2_with fail
      go_region_held3 (fun w' => w'.cell? ⟨b, off + k, none⟩ = some (.slice p s.length q) ∧ w'.cell? ⟨b', off' + k, none⟩ = some (.slice p' s.length q') ∧ Below wr.heap.size wr w')
        (first | assumption | exact ⟨hc, hc', Below.refl _ _⟩ | exact ⟨hc, hc', (Below.refl _ _).drew⟩)
        (first | (go_at_call 86; refine Calls.mono (HT.out _ ?_) ?_; assumption; rintro e w' ⟨rfl, hbx⟩))
      go_wp2_with fail
      go_roundw
      case rel =>
        refine ⟨k + 1, by omega, by go_num, ?_⟩
        refine below_of3 (b := b) (o := off + k) (b' := b') (o' := off' + k) (x := .slice p s.length q) (x' := .slice p' s.length q') HB.out ?_
        assumption
      case measure => simp [intOf]; omega
    · have HB := Lib.hid hbel
      clear hbel
      go_wp2
      go_ret
      exact ⟨rfl, HB.out⟩

set_option maxHeartbeats 2000000 in
theorem mark_any (lo hi : Nat) (a : Option Addr) (c : Nat) (ls : List (List (List Int × Int))) (vs : List Value) (css : List (List Value)) (K : Nat) (w : World) (h : OwnLK lo hi w (.slice a ls.length c) ls vs css) (h2 : K + totL ls ≤ 4611686018427387904) (hn : ls.length ≤ 1048576) :
    Calls Try.prog 49 #[.slice a ls.length c, .int .i64 K] w fun e w' => e = .returned (.int .i64 (K + totL ls : Nat)) ∧ OwnLK lo hi w' (.slice a ls.length c) (markL K ls) vs css ∧ Stir (FootL vs css ls) w w' := by
  obtain ⟨h1, hblk, h5⟩ := h
  have HB := Lib.hid hblk
  have H1 := Lib.hid h1
  have H5 := Lib.hid (show LaysOf lo hi w vs css (markPartL K ls 0) by rw [markPartL_zero]; exact h5)
  clear hblk h1 h5
  go_enter Try.func49, Try.ntmps49
  go_wp2_with fail
  go_loopw [1, 5] (fun q i wr => ∃ k : Nat, k ≤ ls.length ∧ i = .int .i64 k ∧ q = .int .i64 (K + totL (ls.take k) : Nat) ∧ wr.ownsRow lo 72 1 (.slice a ls.length c) ls.length vs ∧ LaysOf lo hi wr vs css (markPartL K ls k) ∧ Stir (FootL vs css ls) w wr) (fun _ i _ => ls.length - (intOf i).toNat)
  case atStart => exact ⟨0, Nat.zero_le _, rfl, by simp [totL], H1.out, H5.out, Stir.refl _ _⟩
  case round =>
    obtain ⟨k, hk, rfl, rfl, ho, hrow, hon⟩ := hrel
    by_cases hlt : k < ls.length
    · have hoi := hrow.2.2.1 k (by rw [markPartL_length]; exact hlt)
      rw [markPartL_getD _ _ _ _ hlt, if_neg (by omega)] at hoi
      obtain ⟨p, q, hv, hrd, hpc, hml⟩ := (show OwnJ lo hi wr (vs.getD k undef) (ls.getD k []) from ⟨_, hoi⟩).slice
      obtain ⟨b, off, hab, hb, hc⟩ : ∃ b off, a = some ⟨b, off, none⟩ ∧ b < wr.heap.size ∧ wr.cell? ⟨b, off + k, none⟩ = some (vs.getD k undef) := by
        rcases ho.2 with ⟨e, h0⟩ | ⟨g, cap, cur, e, hl, hh, hn', hm, hs, ht⟩
        · omega
        · cases e
          refine ⟨g, 0, rfl, (Array.getElem?_eq_some_iff.1 hh).1, ?_⟩
          have hx := ho.cells (g := g) rfl k (vs.getD k undef) (by rw [List.getD_eq_getElem?_getD, List.getElem?_eq_getElem (by have := hrow.1; rw [markPartL_length] at this; omega)]; simp)
          rw [Go.WideShapes.add_plain] at hx
          simpa using hx
      subst hab
      have HT := Lib.hid (totL_succ ls k hlt)
      have hle := totL_take_le ls (k + 1)
      rw [HT.out] at hle
      have HO := Lib.hid ho
      have HR := Lib.hid hrow
      have HN := Lib.hid hon
      have HV := Lib.hid hv
      rw [hv] at hc hoi
      clear ho hrow hon hv hrd
      have HI := Lib.hid hoi
      clear hoi
      have HM := Lib.hid (show mkL K ls k = planesfns.markJ (K + totL (ls.take k)) (ls.getD k []) from rfl)
      have HG := Lib.hid (show (ls.getD k []) = (ls.getD k []) from rfl)
      generalize hx : totL (ls.take k) = x at *
      generalize hs : ls.getD k [] = s at HI HM HT hle hc hpc hml
      have HS := Lib.hid hs
      clear hs hx HG
      go_wp2_with fail
      refine (planesfns.mark_stir lo hi _ _ s _ (K + x) wr HI.out (by omega) (by omega)).mono ?_
      rintro e w2 ⟨rfl, hoi2, hg2⟩
      have HI2 := Lib.hid hoi2
      have HG2 := Lib.hid hg2
      clear hoi2 hg2
      go_wp2_with fail
      go_roundw
      case rel =>
        have hI := HI.out
        have e1 : Stir (FootL vs css ls) wr w2 := HG2.out.mono fun g hg => ⟨k, hlt, by rw [HV.out, HS.out]; exact hg⟩
        refine ⟨k + 1, by omega, by go_num, by rw [HT.out]; go_num, ?_, ?_, HN.out.trans e1⟩
        · exact ownsRow_block HO.out fun g hg => HG2.out.block g (HO.out.lt g hg).2 (hI.apart HO.out hg)
        · refine HR.out.mark hlt (by rw [HV.out, HM.out, HS.out]; exact HI2.out) (by rw [HV.out, HS.out]; exact HG2.out)
      case measure => simp [intOf]; omega
    · obtain rfl : k = ls.length := by omega
      have HF := Lib.hid (show OwnLK lo hi wr (.slice a ls.length c) (markL K ls) vs css from ⟨by rw [markL_length]; exact ho, HB.out, hrow⟩)
      have HN := Lib.hid hon
      clear ho hrow hon
      rw [totL_all]
      go_wp2_with fail
      go_ret
      exact ⟨rfl, HF.out, HN.out⟩
set_option maxHeartbeats 1000000 in
theorem held_any (a : Option Addr) (c : Nat) (ls : List (List (List Int × Int))) (K : Nat) (w : World) (hr : ReadsL w a (markL K ls)) (h2 : K + totL ls ≤ 4611686018427387904) (hn : ls.length ≤ 1048576) :
    Calls Try.prog 50 #[.slice a ls.length c, .int .i64 K] w fun e w' => e = .returned (.int .i64 (K + totL ls : Nat)) ∧ Below w.heap.size w w' := by
  go_enter Try.func50, Try.ntmps50
  go_wp2_with fail
  go_loopw [1, 5] (fun q i wr => ∃ k : Nat, k ≤ ls.length ∧ i = .int .i64 k ∧ q = .int .i64 (K + totL (ls.take k) : Nat) ∧ Below w.heap.size w wr) (fun _ i _ => ls.length - (intOf i).toNat)
  case atStart => exact ⟨0, Nat.zero_le _, rfl, by simp [totL], Below.refl _ _⟩
  case round =>
    obtain ⟨k, hk, rfl, rfl, hb⟩ := hrel
    have HB := Lib.hid hb
    have hws := hb.size
    by_cases hlt : k < ls.length
    · obtain ⟨g, off, p, q, rfl, hg, hcell, hq, hrow⟩ := (hr.below hb).at (k := k) (by rw [markL_length]; exact hlt)
      rw [markL_getD K ls k hlt] at hcell hrow
      rw [mkL_length] at hcell
      unfold mkL at hrow
      clear hb hq
      have HT := Lib.hid (totL_succ ls k hlt)
      have hle := totL_take_le ls (k + 1)
      rw [HT.out] at hle
      generalize hx : totL (ls.take k) = x at *
      generalize hs : ls.getD k [] = s at *
      clear hs hx
      have HR := Lib.hid hrow
      clear hrow
      go_wp2_with fail
      refine (planesfns.held_any _ _ s (K + x) wr HR.out (by omega) (by omega)).mono ?_
      rintro e w2 ⟨rfl, hb2⟩
      have HB2 := Lib.hid (HB.out.trans (hb2.mono hws))
      clear hb2
      go_wp2_with fail
      go_roundw
      case rel => exact ⟨k + 1, by omega, by go_num, by rw [HT.out]; go_num, HB2.out⟩
      case measure => simp [intOf]; omega
    · obtain rfl : k = ls.length := by omega
      clear hb
      rw [totL_all]
      go_wp2_with fail
      go_ret
      exact ⟨rfl, HB.out⟩
end Go.Proofs.Ytoephhhofkmgjab.laysfns
namespace Go.Proofs.Ytoephhhofkmgjab.netfns
open Go.RowKit own
set_option linter.unusedVariables false
set_option linter.unusedSimpArgs false
set_option maxHeartbeats 1000000 in
theorem sz_yes (a : Option Addr) (ls : List (List (List Int × Int))) (c : Nat) (b left : Int) (w : World) (hr : ReadsL w a ls) (h0 : (ls.length : Int) + (totL ls : Int) ≤ left) (h1 : left ≤ 1048576) :
    Calls Try.prog 23 #[.agg #[.int .i64 b, .slice a ls.length c], .int .i64 left] w fun e w' => e = .returned (.int .i64 (left - ls.length - totL ls)) ∧ Below w.heap.size w w' := by
  have hB := ((Below.refl w.heap.size w).alloc (Nat.le_refl _) (.cells #[.int .i64 b, .slice a ls.length c] 43))
  have hr1 := hr.below hB
  have HB := Lib.hid hB
  clear hB
  go_enter Try.func23, Try.ntmps23
  go_wp2_with fail
  refine (laysfns.sz_yes _ ls _ _ _ hr1 (by omega) (by omega)).mono ?_
  rintro e w' ⟨rfl, hb⟩
  have HB1 := Lib.hid (HB.out.trans (hb.mono (by simp)))
  clear hb hr1
  go_wp2_with fail
  go_ret
  exact ⟨rfl, HB1.out⟩

set_option maxHeartbeats 1000000 in
theorem sz_no (a : Option Addr) (ls : List (List (List Int × Int))) (c : Nat) (b left : Int) (w : World) (hr : ReadsL w a ls) (hl : ls.length ≤ 9223372036854775807) (hs : ∀ x ∈ ls, x.length ≤ 9223372036854775807 ∧ ∀ y ∈ x, y.1.length ≤ 9223372036854775807)
    (h0 : left < (ls.length : Int) + (totL ls : Int)) (h1 : left ≤ 1048576) (h2 : 0 ≤ left) :
    Calls Try.prog 23 #[.agg #[.int .i64 b, .slice a ls.length c], .int .i64 left] w fun e w' => e = .returned (.int .i64 (-1)) ∧ Below w.heap.size w w' := by
  have hB := ((Below.refl w.heap.size w).alloc (Nat.le_refl _) (.cells #[.int .i64 b, .slice a ls.length c] 43))
  have hr1 := hr.below hB
  have HB := Lib.hid hB
  have HS := Lib.hid hs
  clear hB hs
  go_enter Try.func23, Try.ntmps23
  go_wp2_with fail
  refine (laysfns.sz_no _ ls _ _ _ hr1 hl HS.out h0 h1 h2).mono ?_
  rintro e w' ⟨rfl, hb⟩
  have HB1 := Lib.hid (HB.out.trans (hb.mono (by simp)))
  clear hb hr1
  go_wp2_with fail
  go_ret
  exact ⟨rfl, HB1.out⟩

/-- What a copy is. -/
def MadeT (ls : List (List (List Int × Int))) (b : Int) (w : World) (e : Ending) (w' : World) : Prop :=
  ∃ v, e = .returned (.agg #[.int .i64 b, v]) ∧ OwnL w.heap.size w'.heap.size w' v ls ∧ Below w.heap.size w w'

set_option maxHeartbeats 1000000 in
theorem to_any (a : Option Addr) (ls : List (List (List Int × Int))) (c : Nat) (b : Int) (w : World) (hr : ReadsL w a ls) (hn : (ls.length : Int) + (totL ls : Int) ≤ 1048576) :
    Calls Try.prog 25 #[.agg #[.int .i64 b, .slice a ls.length c]] w (MadeT ls b w) := by
  have hB : Below w.heap.size w (((w.alloc (.cells #[.int .i64 b, .slice a ls.length c] 43)).alloc (.cells #[.int .i64 0, .slice none 0 0] 36)).alloc (.cells #[.int .i64 b, .slice none 0 0] 36)) :=
    (((Below.refl _ _).alloc (Nat.le_refl _) _).alloc (by simp) _).alloc (by simp; omega) _
  have hr1 := hr.below hB
  have HB := Lib.hid hB
  clear hB hr
  go_enter Try.func25, Try.ntmps25
  go_wp2_with fail
  refine (laysfns.to_any a ls c _ hr1 hn).mono ?_
  rintro e w1 ⟨v, rfl, ho, hb⟩
  obtain ⟨p, q, rfl, _, _, _⟩ := ho.slice
  obtain ⟨hc, hf⟩ := bcell hb
  have hs : w.heap.size + 1 + 1 + 1 ≤ w1.heap.size := by have := hb.size; simp at this; omega
  have HB1 := Lib.hid (HB.out.trans (hb.mono (by simp; omega)))
  have HO := Lib.hid (ho.mono (lo' := w.heap.size + 3) (by simp) (Nat.le_refl _))
  clear hb ho hr1
  go_wp2_with fail
  refine bodyPost_ret (v := .agg #[.int .i64 b, .slice p ls.length q]) (by simp [results, Try.results25, go_sem, hc]) rfl ⟨_, rfl, ?_, ?_⟩
  · simp only [size_set]
    exact (((HO.out.set (by simp) _).set (by simp) _).set (by simp) _).mono (by omega) (Nat.le_refl _)
  · exact ((HB1.out.setCell (by simp; omega) _).setCell (by simp) _).setCell (by simp) _
set_option maxHeartbeats 1000000 in
theorem eq_same (a a' : Option Addr) (ls : List (List (List Int × Int))) (c c' : Nat) (b : Int) (w : World) (hr : ReadsL w a ls) (hr' : ReadsL w a' ls) (hn : ls.length ≤ 9223372036854775807) (hm : ∀ x ∈ ls, x.length ≤ 9223372036854775807 ∧ ∀ y ∈ x, y.1.length ≤ 9223372036854775807) :
    Calls Try.prog 20 #[.agg #[.int .i64 b, .slice a ls.length c], .agg #[.int .i64 b, .slice a' ls.length c']] w fun e w' => e = .returned (.bool true) ∧ Below w.heap.size w w' := by
  have hB := (((Below.refl w.heap.size w).alloc (Nat.le_refl _) (.cells #[.int .i64 b, .slice a ls.length c] 36)).alloc (by simp) (.cells #[.int .i64 b, .slice a' ls.length c'] 36))
  have hr1 := hr.below hB
  have hr1' := hr'.below hB
  have HB := Lib.hid hB
  have HM := Lib.hid hm
  clear hB hr hr' hm
  go_enter Try.func20, Try.ntmps20
  go_wp2_with fail
  refine (laysfns.eq_same _ _ ls _ _ _ hr1 hr1' hn HM.out).mono ?_
  rintro e w1 ⟨rfl, hb⟩
  have HB1 := Lib.hid (HB.out.trans (hb.mono (by simp; omega)))
  clear hb hr1 hr1'
  go_wp2_with fail
  go_ret
  exact ⟨rfl, HB1.out⟩
set_option maxHeartbeats 1000000 in
theorem mark_any (lo hi : Nat) (a : Option Addr) (c : Nat) (ls : List (List (List Int × Int))) (b : Int) (K : Nat) (w : World) (h : OwnL lo hi w (.slice a ls.length c) ls) (h2 : K + totL ls ≤ 4611686018427387904) (hn : ls.length ≤ 1048576) :
    Calls Try.prog 21 #[.agg #[.int .i64 b, .slice a ls.length c], .int .i64 K] w fun e w' => e = .returned (.int .i64 (K + totL ls : Nat)) ∧ OwnL lo hi w' (.slice a ls.length c) (markL K ls) ∧ Only lo hi w w' := by
  have hB := ((Below.refl w.heap.size w).alloc (Nat.le_refl _) (.cells #[.int .i64 b, .slice a ls.length c] 36))
  obtain ⟨vs, css, h⟩ := h
  have hlt := fun g (hg : FootL vs css ls g) => h.2.2.foot hg
  have HO := Lib.hid (show OwnLK lo hi _ (.slice a ls.length c) ls vs css from ⟨ownsRow_block h.1 (fun g hg => hB.block g (h.1.lt g hg).2), h.2.1, h.2.2.below hB⟩)
  have HB := Lib.hid hB
  have HL := Lib.hid hlt
  clear h hB hlt
  go_enter Try.func21, Try.ntmps21
  go_wp2_with fail
  refine (laysfns.mark_any lo hi _ _ ls vs css K _ HO.out h2 hn).mono ?_
  rintro e w1 ⟨rfl, ho1, hg1⟩
  have HO1 := Lib.hid (show OwnL lo hi w1 (.slice a ls.length c) (markL K ls) from ⟨vs, css, ho1⟩)
  have HG := Lib.hid ((Only.of_below (lo := lo) (hi := hi) HB.out).trans (hg1.only fun g hg => ⟨(HL.out g hg).1, (HL.out g hg).2.1⟩))
  clear ho1 hg1
  go_wp2_with fail
  go_ret
  exact ⟨rfl, HO1.out, HG.out⟩
set_option maxHeartbeats 1000000 in
theorem held_any (a : Option Addr) (c : Nat) (ls : List (List (List Int × Int))) (b : Int) (K : Nat) (w : World) (hr : ReadsL w a (markL K ls)) (h2 : K + totL ls ≤ 4611686018427387904) (hn : ls.length ≤ 1048576) :
    Calls Try.prog 22 #[.agg #[.int .i64 b, .slice a ls.length c], .int .i64 K] w fun e w' => e = .returned (.int .i64 (K + totL ls : Nat)) ∧ Below w.heap.size w w' := by
  have hB := ((Below.refl w.heap.size w).alloc (Nat.le_refl _) (.cells #[.int .i64 b, .slice a ls.length c] 36))
  have hr1 := hr.below hB
  have HB := Lib.hid hB
  clear hB
  go_enter Try.func22, Try.ntmps22
  go_wp2_with fail
  refine (laysfns.held_any _ _ ls K _ hr1 h2 hn).mono ?_
  rintro e w1 ⟨rfl, hb⟩
  have HB1 := Lib.hid (HB.out.trans (hb.mono (by simp)))
  clear hb
  go_wp2_with fail
  go_ret
  exact ⟨rfl, HB1.out⟩
end Go.Proofs.Ytoephhhofkmgjab.netfns
