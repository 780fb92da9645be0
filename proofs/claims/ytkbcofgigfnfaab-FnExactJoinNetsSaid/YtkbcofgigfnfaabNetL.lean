/- Lists of lists of planes in memory, read and made: plain lemmas, no condition. -/
import Derived.Test.YtkbcofgigfnfaabPlaneSFns
namespace Go.Proofs.Ytkbcofgigfnfaab.own
open Go.RowKit
set_option linter.unusedVariables false

/-- The blocks of a slice of planes and of its weights. -/
def FootJ (v : Value) (cs : List Value) (n : Nat) (g : Nat) : Prop := v.ownBlock = some g ∨ Blk cs n g
theorem OwnK.foot {lo hi g : Nat} {w : World} {v : Value} {ps : List (List Int × Int)} {cs : List Value} (h : OwnK lo hi w v ps cs) (hg : FootJ v cs ps.length g) : lo ≤ g ∧ g < hi ∧ g < w.heap.size := by
  obtain ⟨h1, h2, h3⟩ := h
  rcases hg with hg | ⟨i, hi, he⟩
  · exact ⟨(h1.lt g hg).1, h2 g hg, (h1.lt g hg).2⟩
  · exact (h3.2.1 i (by rw [List.length_map]; exact hi)).lt he
theorem OwnK.keep {lo hi : Nat} {w w' : World} {v : Value} {ps : List (List Int × Int)} {cs : List Value} (h : OwnK lo hi w v ps cs) (hb : ∀ g, FootJ v cs ps.length g → w'.heap[g]? = w.heap[g]?) : OwnK lo hi w' v ps cs := by
  obtain ⟨h1, h2, h3⟩ := h
  exact ⟨ownsRow_block h1 (fun g hg => hb g (.inl hg)), h2, h3.keep fun g _ _ _ ⟨i, hi, he⟩ => hb g (.inr ⟨i, by rw [List.length_map] at hi; exact hi, he⟩)⟩
theorem OwnK.widen {lo hi lo' hi' : Nat} {w : World} {v : Value} {ps : List (List Int × Int)} {cs : List Value} (h : OwnK lo hi w v ps cs) (h1 : lo' ≤ lo) (h2 : hi ≤ hi') : OwnK lo' hi' w v ps cs :=
  ⟨ownsRow_base h.1 (fun g hg => Nat.le_trans h1 (h.1.lt g hg).1), fun g hg => Nat.lt_of_lt_of_le (h.2.1 g hg) h2, h.2.2.mono h1 h2⟩
/-- Blocks of another kind of elements are none of these. -/
theorem OwnK.apart {lo hi lo' : Nat} {w : World} {v v' : Value} {ps : List (List Int × Int)} {cs : List Value} {n' : Nat} {xs : List Value} (h : OwnK lo hi w v ps cs) (h' : w.ownsRow lo' 110 1 v' n' xs) {g : Nat} (hg : v'.ownBlock = some g) : ¬ FootJ v cs ps.length g := by
  rintro (hf | ⟨i, hi, he⟩)
  · exact ownsRow_ne h.1 h' (by decide) hf hg
  · exact ownsRow_ne (h.2.2.2.1 i (by rw [List.length_map]; exact hi)).1 h' (by decide) he hg

/-- Slices of planes, no block of which is in two of them. -/
def LaysOf (lo hi : Nat) (w : World) (vs : List Value) (css : List (List Value)) (ls : List (List (List Int × Int))) : Prop :=
  vs.length = ls.length ∧ css.length = ls.length ∧ (∀ i, i < ls.length → OwnK lo hi w (vs.getD i undef) (ls.getD i []) (css.getD i [])) ∧
    (∀ i j, i < j → j < ls.length → ∀ g, FootJ (vs.getD i undef) (css.getD i []) (ls.getD i []).length g → ¬ FootJ (vs.getD j undef) (css.getD j []) (ls.getD j []).length g)
/-- The blocks of all of them. -/
def FootL (vs : List Value) (css : List (List Value)) (ls : List (List (List Int × Int))) (g : Nat) : Prop := ∃ i, i < ls.length ∧ FootJ (vs.getD i undef) (css.getD i []) (ls.getD i []).length g
theorem LaysOf.nil (lo hi : Nat) (w : World) : LaysOf lo hi w [] [] [] := ⟨rfl, rfl, fun i hi => by simp at hi, fun i j _ hj => by simp at hj⟩
theorem LaysOf.foot {lo hi g : Nat} {w : World} {vs : List Value} {css : List (List Value)} {ls : List (List (List Int × Int))} (h : LaysOf lo hi w vs css ls) (hg : FootL vs css ls g) : lo ≤ g ∧ g < hi ∧ g < w.heap.size := by
  obtain ⟨i, hi, he⟩ := hg
  exact (h.2.2.1 i hi).foot he
theorem LaysOf.keep {lo hi : Nat} {w w' : World} {vs : List Value} {css : List (List Value)} {ls : List (List (List Int × Int))} (h : LaysOf lo hi w vs css ls) (hb : ∀ g, FootL vs css ls g → w'.heap[g]? = w.heap[g]?) : LaysOf lo hi w' vs css ls :=
  ⟨h.1, h.2.1, fun i hi => (h.2.2.1 i hi).keep fun g hg => hb g ⟨i, hi, hg⟩, h.2.2.2⟩
theorem LaysOf.mono {lo hi lo' hi' : Nat} {w : World} {vs : List Value} {css : List (List Value)} {ls : List (List (List Int × Int))} (h : LaysOf lo hi w vs css ls) (h1 : lo' ≤ lo) (h2 : hi ≤ hi') : LaysOf lo' hi' w vs css ls :=
  ⟨h.1, h.2.1, fun i hi => (h.2.2.1 i hi).widen h1 h2, h.2.2.2⟩
theorem LaysOf.below {lo hi : Nat} {w w' : World} {vs : List Value} {css : List (List Value)} {ls : List (List (List Int × Int))} (h : LaysOf lo hi w vs css ls) (hb : Below w.heap.size w w') : LaysOf lo hi w' vs css ls :=
  h.keep fun g hg => hb.block g (h.foot hg).2.2
theorem LaysOf.snoc {lo hi hi' : Nat} {w : World} {vs : List Value} {css : List (List Value)} {ls : List (List (List Int × Int))} {v : Value} {cs : List Value} {ps : List (List Int × Int)} (h : LaysOf lo hi w vs css ls) (hc : OwnK hi hi' w v ps cs) (h1 : lo ≤ hi) (h2 : hi ≤ hi') :
    LaysOf lo hi' w (vs ++ [v]) (css ++ [cs]) (ls ++ [ps]) := by
  obtain ⟨hl, hl2, ho, hd⟩ := h
  refine ⟨by simp [hl], by simp [hl2], fun i hi' => ?_, fun i j hij hj g hg => ?_⟩
  · by_cases e : i < ls.length
    · rw [getD_snoc_lt _ _ _ _ e, getD_snoc_lt _ _ _ _ (by omega), getD_snoc_lt _ _ _ _ (by omega)]
      exact (ho i e).widen (Nat.le_refl _) h2
    · have : i = ls.length := by simp at hi'; omega
      rw [getD_snoc_eq _ _ _ _ this, getD_snoc_eq _ _ _ _ (by omega), getD_snoc_eq _ _ _ _ (by omega)]
      exact hc.widen h1 (Nat.le_refl _)
  · by_cases e : j < ls.length
    · rw [getD_snoc_lt _ _ _ _ (by omega), getD_snoc_lt _ _ _ _ (by omega), getD_snoc_lt _ _ _ _ (by omega)] at hg ⊢
      exact hd i j hij e g hg
    · have : j = ls.length := by simp at hj; omega
      rw [getD_snoc_lt _ _ _ _ (by omega), getD_snoc_lt _ _ _ _ (by omega), getD_snoc_lt _ _ _ _ (by omega)] at hg
      rw [getD_snoc_eq _ _ _ _ this, getD_snoc_eq _ _ _ _ (by omega), getD_snoc_eq _ _ _ _ (by omega)]
      intro hg'
      have h3 := ((ho i (by omega)).foot hg).2.1
      have h4 := (hc.foot hg').1
      omega

/-- A slice of slices of planes. -/
def OwnLK (lo hi : Nat) (w : World) (v : Value) (ls : List (List (List Int × Int))) (vs : List Value) (css : List (List Value)) : Prop :=
  w.ownsRow lo 110 1 v ls.length vs ∧ (∀ g, v.ownBlock = some g → g < hi) ∧ LaysOf lo hi w vs css ls
def OwnL (lo hi : Nat) (w : World) (v : Value) (ls : List (List (List Int × Int))) : Prop := ∃ vs css, OwnLK lo hi w v ls vs css
/-- The slice with this address reads as these lists of planes. -/
def ReadsL (w : World) (a : Option Addr) (ls : List (List (List Int × Int))) : Prop :=
  ls = [] ∨ ∃ b off, a = some ⟨b, off, none⟩ ∧ b < w.heap.size ∧ ∀ k, k < ls.length → ∃ p c, w.cell? ⟨b, off + k, none⟩ = some (.slice p (ls.getD k []).length c) ∧ (ls.getD k []).length ≤ c ∧ ReadsJ w p (ls.getD k [])
theorem ReadsL.at {w : World} {a : Option Addr} {ls : List (List (List Int × Int))} (h : ReadsL w a ls) {k : Nat} (hk : k < ls.length) :
    ∃ b off p c, a = some ⟨b, off, none⟩ ∧ b < w.heap.size ∧ w.cell? ⟨b, off + k, none⟩ = some (.slice p (ls.getD k []).length c) ∧ (ls.getD k []).length ≤ c ∧ ReadsJ w p (ls.getD k []) := by
  rcases h with rfl | ⟨b, off, e, hb, hc⟩
  · simp at hk
  · obtain ⟨p, c, h1, h2, h3⟩ := hc k hk
    exact ⟨b, off, p, c, e, hb, h1, h2, h3⟩
theorem ReadsL.below {w w' : World} {a : Option Addr} {ls : List (List (List Int × Int))} (h : ReadsL w a ls) (hb : Below w.heap.size w w') : ReadsL w' a ls := by
  rcases h with rfl | ⟨b, off, e, hlt, hc⟩
  · exact .inl rfl
  · refine .inr ⟨b, off, e, Nat.lt_of_lt_of_le hlt hb.size, fun i hi => ?_⟩
    obtain ⟨p, c, h1, h2, h3⟩ := hc i hi
    exact ⟨p, c, cell_below hb h1 hlt, h2, h3.below hb⟩
theorem OwnL.nil (lo hi : Nat) (w : World) : OwnL lo hi w (.slice none 0 0) [] := ⟨[], [], World.ownsRow_nil w lo _ 1, fun g hg => by simp [Value.ownBlock] at hg, LaysOf.nil _ _ _⟩
theorem OwnL.lt {lo hi : Nat} {w : World} {v : Value} {ls : List (List (List Int × Int))} (h : OwnL lo hi w v ls) {g : Nat} (hg : v.ownBlock = some g) : lo ≤ g ∧ g < hi ∧ g < w.heap.size := by
  obtain ⟨vs, css, h1, h2, _⟩ := h
  exact ⟨(h1.lt g hg).1, h2 g hg, (h1.lt g hg).2⟩
theorem OwnL.mono {lo hi lo' hi' : Nat} {w : World} {v : Value} {ls : List (List (List Int × Int))} (h : OwnL lo hi w v ls) (h1 : lo' ≤ lo) (h2 : hi ≤ hi') : OwnL lo' hi' w v ls := by
  have hl := fun g hg => h.lt (g := g) hg
  obtain ⟨vs, css, h3, h4, h5⟩ := h
  exact ⟨vs, css, ownsRow_base h3 (fun g hg => Nat.le_trans h1 (hl g hg).1), fun g hg => Nat.lt_of_lt_of_le (h4 g hg) h2, h5.mono h1 h2⟩
theorem OwnL.only {lo hi lo' hi' : Nat} {w w' : World} {v : Value} {ls : List (List (List Int × Int))} (h : OwnL lo hi w v ls) (ho : Only lo' hi' w w') (hd : hi ≤ lo' ∨ hi' ≤ lo) : OwnL lo hi w' v ls := by
  have hl := fun g hg => h.lt (g := g) hg
  obtain ⟨vs, css, h3, h4, h5⟩ := h
  exact ⟨vs, css, ownsRow_block h3 (fun g hg => by have := hl g hg; exact ho.block g this.2.2 (by omega)), h4, h5.keep fun g hg => by have := h5.foot hg; exact ho.block g this.2.2 (by omega)⟩
theorem OwnL.below {lo hi : Nat} {w w' : World} {v : Value} {ls : List (List (List Int × Int))} (h : OwnL lo hi w v ls) (hb : Below w.heap.size w w') : OwnL lo hi w' v ls := by
  have hl := fun g hg => h.lt (g := g) hg
  obtain ⟨vs, css, h3, h4, h5⟩ := h
  exact ⟨vs, css, ownsRow_block h3 (fun g hg => hb.block g (hl g hg).2.2), h4, h5.below hb⟩
theorem OwnL.block' {lo hi : Nat} {w w' : World} {v : Value} {ls : List (List (List Int × Int))} (h : OwnL lo hi w v ls) (hb : ∀ g, lo ≤ g → g < hi → w'.heap[g]? = w.heap[g]?) : OwnL lo hi w' v ls := by
  have hl := fun g hg => h.lt (g := g) hg
  obtain ⟨vs, css, h3, h4, h5⟩ := h
  exact ⟨vs, css, ownsRow_block h3 (fun g hg => hb g (hl g hg).1 (hl g hg).2.1), h4, h5.keep fun g hg => by have := h5.foot hg; exact hb g this.1 this.2.1⟩
theorem OwnL.set {lo hi : Nat} {w : World} {v : Value} {ls : List (List (List Int × Int))} (h : OwnL lo hi w v ls) {a : Addr} (ha : a.block < lo) (u : Value) : OwnL lo hi (w.setCell a u) v ls :=
  h.block' (fun g h1 _ => Below.heap_setCell _ _ _ _ (by omega))
/-- What it is as a value. -/
theorem OwnL.slice {lo hi : Nat} {w : World} {v : Value} {ls : List (List (List Int × Int))} (h : OwnL lo hi w v ls) : ∃ a c, v = .slice a ls.length c ∧ ReadsL w a ls ∧ ls.length ≤ c ∧ ls.length ≤ maxLen := by
  obtain ⟨vs, css, h1, h2, hl, hl2, ho, hd⟩ := h
  rcases h1.2 with ⟨rfl, h0⟩ | ⟨g, cap, cur, rfl, hb, hh, hn, hm, hs, ht⟩
  · have : ls = [] := List.length_eq_zero_iff.1 h0
    subst this
    exact ⟨none, 0, rfl, .inl rfl, Nat.le_refl _, by simp⟩
  · refine ⟨some ⟨g, 0, none⟩, cap, rfl, .inr ⟨g, 0, rfl, (Array.getElem?_eq_some_iff.1 hh).1, fun i hi' => ?_⟩, hn, by omega⟩
    obtain ⟨p, c, hv, hr, hc, _⟩ := (show OwnJ lo hi w (vs.getD i undef) (ls.getD i []) from ⟨_, ho i hi'⟩).slice
    have hx := h1.cells (g := g) rfl i (vs.getD i undef) (by rw [List.getD_eq_getElem?_getD, List.getElem?_eq_getElem (by omega)]; simp)
    rw [Go.WideShapes.add_plain, hv] at hx
    exact ⟨p, c, hx, hc, hr⟩
theorem OwnL.reads {lo hi : Nat} {w : World} {a : Option Addr} {n c : Nat} {ls : List (List (List Int × Int))} (h : OwnL lo hi w (.slice a n c) ls) : ReadsL w a ls := by
  obtain ⟨a', c', e, hr, _, _⟩ := h.slice
  cases e
  exact hr
theorem take_snocL (ls : List (List (List Int × Int))) (k : Nat) (h : k < ls.length) : ls.take (k + 1) = ls.take k ++ [ls.getD k []] := by
  rw [List.take_succ_eq_append_getElem h, List.getD_eq_getElem?_getD, List.getElem?_eq_getElem h]; rfl
/-- A slice made at its whole length whose first k lists are filled. -/
def OwnPartL (lo g : Nat) (w : World) (ls : List (List (List Int × Int))) (k : Nat) : Prop :=
  ∃ vs css, w.ownsRow lo 110 1 (.slice (some ⟨g, 0, none⟩) ls.length ls.length) ls.length (vs ++ List.replicate (ls.length - k) (.slice none 0 0)) ∧ LaysOf lo w.heap.size w vs css (ls.take k) ∧ k ≤ ls.length
theorem OwnPartL.start {lo g : Nat} {w : World} {ls : List (List (List Int × Int))} (h : w.ownsRow lo 110 1 (.slice (some ⟨g, 0, none⟩) ls.length ls.length) ls.length (List.replicate ls.length (.slice none 0 0))) : OwnPartL lo g w ls 0 :=
  ⟨[], [], by simpa using h, by simpa using LaysOf.nil _ _ _, Nat.zero_le _⟩
theorem OwnPartL.done {lo g : Nat} {w : World} {ls : List (List (List Int × Int))} (h : OwnPartL lo g w ls ls.length) : OwnL lo w.heap.size w (.slice (some ⟨g, 0, none⟩) ls.length ls.length) ls := by
  obtain ⟨vs, css, h1, h2, _⟩ := h
  rw [List.take_length] at h2
  exact ⟨vs, css, by simpa using h1, fun g' hg => (h1.lt g' hg).2, h2⟩
theorem OwnPartL.store {lo g : Nat} {w w2 : World} {ls : List (List (List Int × Int))} {k : Nat} {v : Value} (h : OwnPartL lo g w ls k) (hlt : k < ls.length) (hb : Below w.heap.size w w2) (hv : OwnJ w.heap.size w2.heap.size w2 v (ls.getD k [])) :
    w2.cell? ⟨g, k, none⟩ = some (.slice none 0 0) ∧ w2.frozen? ⟨g, k, none⟩ = false ∧ OwnPartL lo g (w2.setCell ⟨g, k, none⟩ v) ls (k + 1) := by
  obtain ⟨vs, css, h1, h2, h3⟩ := h
  obtain ⟨cs, hv⟩ := hv
  have hg := (h1.lt g rfl)
  have hcl : vs.length = k := by have := h2.1; simp at this; omega
  have h1' := ownsRow_block (w' := w2) h1 (fun g' hg' => hb.block g' (h1.lt g' hg').2)
  have hst := (h1'.stored k v).1
  have h2' := h2.below hb
  refine ⟨?_, h1'.frozenAt k, vs ++ [v], css ++ [cs], ?_, ?_, by omega⟩
  · rw [h1'.cellAt k (by omega), List.getElem?_append_right (by omega), hcl, Nat.sub_self, List.getElem?_replicate, if_pos (by omega)]
  · have e : (vs ++ List.replicate (ls.length - k) (Value.slice none 0 0)).set k v = vs ++ [v] ++ List.replicate (ls.length - (k + 1)) (.slice none 0 0) := by
      rw [List.set_append, if_neg (by omega), hcl, Nat.sub_self, show ls.length - k = (ls.length - (k + 1)) + 1 by omega, List.replicate_succ, List.set_cons_zero, List.append_assoc]
      rfl
    rw [e] at hst
    exact hst
  · rw [take_snocL ls k hlt, size_set]
    have k1 := h2'.keep (w' := w2.setCell ⟨g, k, none⟩ v) fun g' hf => Below.heap_setCell _ _ _ _ fun e => by
      obtain ⟨i, hi, he⟩ := hf
      exact (h2'.2.2.1 i hi).apart h1' (g := g) rfl (by have e2 : g' = g := e; rw [← e2]; exact he)
    have k2 := hv.keep (w' := w2.setCell ⟨g, k, none⟩ v) fun g' hf => Below.heap_setCell _ _ _ _ fun e => hv.apart h1' (g := g) rfl (by have e2 : g' = g := e; rw [← e2]; exact hf)
    exact k1.snoc k2 (by omega) hb.size

/-- What all of it counts. -/
def totL (ls : List (List (List Int × Int))) : Nat := (ls.map fun ps => ps.length + planesfns.totJ ps).sum
theorem totL_zero (ls : List (List (List Int × Int))) : totL (ls.take 0) = 0 := rfl
theorem totL_succ (ls : List (List (List Int × Int))) (k : Nat) (h : k < ls.length) : totL (ls.take (k + 1)) = totL (ls.take k) + ((ls.getD k []).length + planesfns.totJ (ls.getD k [])) := by
  unfold totL
  rw [take_snocL _ _ h, List.map_append, List.sum_append]
  simp only [List.map_cons, List.map_nil, List.sum_cons, List.sum_nil, Nat.add_zero]
theorem totL_take_le (ls : List (List (List Int × Int))) (k : Nat) : totL (ls.take k) ≤ totL ls := by
  induction ls generalizing k with
  | nil => simp [totL]
  | cons x r ih =>
    cases k with
    | zero => simp [totL]
    | succ k =>
      have := ih k
      simp only [totL, List.take_succ_cons, List.map_cons, List.sum_cons] at *
      omega
theorem totL_all (ls : List (List (List Int × Int))) : totL (ls.take ls.length) = totL ls := by rw [List.take_length]
theorem len_le_totL (ls : List (List (List Int × Int))) (s : List (List Int × Int)) (h : s ∈ ls) : s.length + planesfns.totJ s ≤ totL ls := by
  induction ls with
  | nil => cases h
  | cons x r ih =>
    simp only [totL, List.map_cons, List.sum_cons] at *
    cases List.mem_cons.1 h with
    | inl e => subst e; omega
    | inr e => have := ih e; omega
theorem getD_le_totL (ls : List (List (List Int × Int))) (k : Nat) : (ls.getD k []).length + planesfns.totJ (ls.getD k []) ≤ totL ls := by
  by_cases h : k < ls.length
  · have h1 := totL_succ ls k h
    have h2 := totL_take_le ls (k + 1)
    omega
  · rw [List.getD_eq_getElem?_getD, List.getElem?_eq_none (by omega)]; simp [planesfns.totJ, grid.tot]

/-- The marks of lists of planes, from a number on. -/
def mkL (K : Nat) (ls : List (List (List Int × Int))) (i : Nat) : List (List Int × Int) := planesfns.markJ (K + totL (ls.take i)) (ls.getD i [])
def markPartL (K : Nat) (ls : List (List (List Int × Int))) (k : Nat) : List (List (List Int × Int)) := (List.range ls.length).map fun i => if i < k then mkL K ls i else ls.getD i []
def markL (K : Nat) (ls : List (List (List Int × Int))) : List (List (List Int × Int)) := markPartL K ls ls.length
theorem markPartL_length (K : Nat) (ls : List (List (List Int × Int))) (k : Nat) : (markPartL K ls k).length = ls.length := by simp [markPartL]
theorem markPartL_getD (K : Nat) (ls : List (List (List Int × Int))) (k i : Nat) (h : i < ls.length) : (markPartL K ls k).getD i [] = if i < k then mkL K ls i else ls.getD i [] := by
  rw [List.getD_eq_getElem?_getD]; simp [markPartL, h]
theorem markPartL_zero (K : Nat) (ls : List (List (List Int × Int))) : markPartL K ls 0 = ls := by
  apply List.ext_getElem?
  intro i
  by_cases h : i < ls.length
  · have := markPartL_getD K ls 0 i h
    rw [List.getD_eq_getElem?_getD, List.getElem?_eq_getElem (by rw [markPartL_length]; exact h)] at this
    rw [List.getElem?_eq_getElem (by rw [markPartL_length]; exact h), List.getElem?_eq_getElem h]
    simp [List.getElem?_eq_getElem h] at this
    rw [this]
  · rw [List.getElem?_eq_none (by rw [markPartL_length]; omega), List.getElem?_eq_none (by omega)]
theorem markL_length (K : Nat) (ls : List (List (List Int × Int))) : (markL K ls).length = ls.length := markPartL_length _ _ _
theorem markL_getD (K : Nat) (ls : List (List (List Int × Int))) (i : Nat) (h : i < ls.length) : (markL K ls).getD i [] = mkL K ls i := by
  unfold markL; rw [markPartL_getD _ _ _ _ h, if_pos h]
theorem mkL_length (K : Nat) (ls : List (List (List Int × Int))) (i : Nat) : (mkL K ls i).length = (ls.getD i []).length := by unfold mkL; exact planesfns.markJ_length _ _
theorem markPartL_len (K : Nat) (ls : List (List (List Int × Int))) (k i : Nat) (h : i < ls.length) : ((markPartL K ls k).getD i []).length = (ls.getD i []).length := by
  rw [markPartL_getD _ _ _ _ h]; split
  · exact mkL_length _ _ _
  · rfl
/-- One more list is marked. -/
theorem LaysOf.mark {lo hi K k : Nat} {w w' : World} {vs : List Value} {css : List (List Value)} {ls : List (List (List Int × Int))} (h : LaysOf lo hi w vs css (markPartL K ls k)) (hk : k < ls.length)
    (hm : OwnK lo hi w' (vs.getD k undef) (mkL K ls k) (css.getD k [])) (hg : Stir (FootJ (vs.getD k undef) (css.getD k []) (ls.getD k []).length) w w') : LaysOf lo hi w' vs css (markPartL K ls (k + 1)) := by
  obtain ⟨h1, h2, h3, h4⟩ := h
  rw [markPartL_length] at h1 h2 h3 h4
  refine ⟨by rw [markPartL_length]; exact h1, by rw [markPartL_length]; exact h2, fun i hi => ?_, fun i j hij hj g => ?_⟩
  · rw [markPartL_length] at hi
    rw [markPartL_getD _ _ _ _ hi]
    by_cases e : i = k
    · subst e
      rw [if_pos (by omega)]
      exact hm
    · have := h3 i hi
      rw [markPartL_getD _ _ _ _ hi] at this
      simp only [show (i < k + 1) ↔ (i < k) from by omega]
      have hlen : (if i < k then mkL K ls i else ls.getD i []).length = (ls.getD i []).length := by
        rw [← markPartL_getD _ _ _ _ hi]; exact markPartL_len _ _ _ _ hi
      refine this.keep fun g hgi => hg.block g (this.foot hgi).2.2 fun e2 => ?_
      rw [hlen] at hgi
      rcases Nat.lt_or_gt_of_ne e with hl | hl
      · exact h4 i k hl hk g (by rw [markPartL_len _ _ _ _ hi]; exact hgi) (by rw [markPartL_len _ _ _ _ hk]; exact e2)
      · exact h4 k i hl hi g (by rw [markPartL_len _ _ _ _ hk]; exact e2) (by rw [markPartL_len _ _ _ _ hi]; exact hgi)
  · rw [markPartL_length] at hj
    have := h4 i j hij hj g
    rw [markPartL_len _ _ _ _ (by omega), markPartL_len _ _ _ _ hj] at this ⊢
    exact this
/-- What a function returns: a net that it made, and a truth value. -/
def RetTB (ls : List (List (List Int × Int))) (n : Int) (ok : Bool) (w : World) (e : Ending) (w' : World) : Prop := ∃ v, e = .returned (.tuple #[.agg #[.int .i64 n, v], .bool ok]) ∧ OwnL w.heap.size w'.heap.size w' v ls ∧ Below w.heap.size w w'
end Go.Proofs.Ytkbcofgigfnfaab.own
