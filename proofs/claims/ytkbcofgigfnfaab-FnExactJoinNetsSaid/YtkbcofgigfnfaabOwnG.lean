/- Lists of lists of integers that a call has made: plain lemmas, no condition. -/
import Derived.Test.YtkbcofgigfnfaabOwn
import Derived.Test.YtkbcofgigfnfaabIntFns
namespace Go.Proofs.Ytkbcofgigfnfaab.own
open Go.RowKit
set_option linter.unusedVariables false

/-- Slices, each in a block of its own, read as these lists. -/
def RowsOf (lo hi : Nat) (w : World) (cs : List Value) (rows : List (List Int)) : Prop :=
  cs.length = rows.length ∧ (∀ i, i < rows.length → OwnI lo hi w (cs.getD i undef) (rows.getD i [])) ∧
    (∀ i j, i < j → j < rows.length → ∀ g, (cs.getD i undef).ownBlock = some g → (cs.getD j undef).ownBlock ≠ some g)

/-- A slice of such slices: its own block, and the rows in theirs. -/
def OwnC (lo hi : Nat) (w : World) (v : Value) (rows : List (List Int)) (cs : List Value) : Prop :=
  w.ownsRow lo 23 1 v rows.length cs ∧ (∀ g, v.ownBlock = some g → g < hi) ∧ RowsOf lo hi w cs rows
def OwnG (lo hi : Nat) (w : World) (v : Value) (rows : List (List Int)) : Prop := ∃ cs : List Value, OwnC lo hi w v rows cs

/-- The blocks of the rows. -/
def Blk (cs : List Value) (n : Nat) (k : Nat) : Prop := ∃ i, i < n ∧ (cs.getD i undef).ownBlock = some k

theorem RowsOf.nil (lo hi : Nat) (w : World) : RowsOf lo hi w [] [] := ⟨rfl, fun i hi => by simp at hi, fun i j _ hj => by simp at hj⟩

theorem getD_snoc_lt {α : Type} (l : List α) (x d : α) (i : Nat) (h : i < l.length) : (l ++ [x]).getD i d = l.getD i d := by
  rw [List.getD_eq_getElem?_getD, List.getD_eq_getElem?_getD, List.getElem?_append_left h]
theorem getD_snoc_eq {α : Type} (l : List α) (x d : α) (i : Nat) (h : i = l.length) : (l ++ [x]).getD i d = x := by
  subst h
  rw [List.getD_eq_getElem?_getD, List.getElem?_append_right (Nat.le_refl _)]; simp

theorem RowsOf.snoc {lo hi hi' : Nat} {w : World} {cs : List Value} {rows : List (List Int)} {c : Value} {r : List Int} (h : RowsOf lo hi w cs rows) (hc : OwnI hi hi' w c r) (h1 : lo ≤ hi) (h2 : hi ≤ hi') : RowsOf lo hi' w (cs ++ [c]) (rows ++ [r]) := by
  obtain ⟨hl, ho, hd⟩ := h
  refine ⟨by simp [hl], fun i hi' => ?_, fun i j hij hj g hg => ?_⟩
  · by_cases e : i < rows.length
    · rw [getD_snoc_lt _ _ _ _ e, getD_snoc_lt _ _ _ _ (by omega)]
      exact (ho i e).mono (Nat.le_refl _) h2
    · have : i = rows.length := by simp at hi'; omega
      rw [getD_snoc_eq _ _ _ _ this, getD_snoc_eq _ _ _ _ (by omega)]
      exact hc.mono h1 (Nat.le_refl _)
  · by_cases e : j < rows.length
    · rw [getD_snoc_lt _ _ _ _ (by omega)] at hg ⊢
      exact hd i j hij e g hg
    · have : j = rows.length := by simp at hj; omega
      rw [getD_snoc_lt _ _ _ _ (by omega)] at hg
      rw [getD_snoc_eq _ _ _ _ (by omega)]
      intro hg'
      have h3 := (ho i (by omega)).2 g hg
      have h4 := (hc.lt hg').1
      omega

theorem RowsOf.keep {lo hi : Nat} {w w' : World} {cs : List Value} {rows : List (List Int)} (h : RowsOf lo hi w cs rows) (hb : ∀ g, lo ≤ g → g < hi → g < w.heap.size → (∃ i, i < rows.length ∧ (cs.getD i undef).ownBlock = some g) → w'.heap[g]? = w.heap[g]?) : RowsOf lo hi w' cs rows :=
  ⟨h.1, fun i hi => (h.2.1 i hi).block fun g hg => by have := (h.2.1 i hi).lt hg; exact hb g this.1 this.2.1 this.2.2 ⟨i, hi, hg⟩, h.2.2⟩

theorem RowsOf.mono {lo hi lo' hi' : Nat} {w : World} {cs : List Value} {rows : List (List Int)} (h : RowsOf lo hi w cs rows) (h1 : lo' ≤ lo) (h2 : hi ≤ hi') : RowsOf lo' hi' w cs rows :=
  ⟨h.1, fun i hi => (h.2.1 i hi).mono h1 h2, h.2.2⟩

theorem RowsOf.below {lo hi : Nat} {w w' : World} {cs : List Value} {rows : List (List Int)} (h : RowsOf lo hi w cs rows) (hb : Below w.heap.size w w') : RowsOf lo hi w' cs rows :=
  h.keep fun g _ _ hs _ => hb.block g hs

/-- Rows of two kinds of elements lie in two blocks. -/
theorem ownsRow_ne {w : World} {lo lo' : Nat} {e e' : TypeId} {s s' n n' : Nat} {v v' : Value} {xs xs' : List Value} (h : w.ownsRow lo e s v n xs) (h' : w.ownsRow lo' e' s' v' n' xs') (hne : e ≠ e') {g : Nat} (hg : v.ownBlock = some g) : v'.ownBlock ≠ some g := by
  rcases h.2 with ⟨rfl, _⟩ | ⟨g1, cap, cur, rfl, _, hh, _⟩
  · simp [Value.ownBlock] at hg
  · rcases h'.2 with ⟨rfl, _⟩ | ⟨g2, cap', cur', rfl, _, hh', _⟩
    · simp [Value.ownBlock]
    · intro e2
      simp [Value.ownBlock] at hg e2
      subst hg e2
      rw [hh] at hh'
      cases hh'
      exact hne rfl

theorem OwnG.nil (lo hi : Nat) (w : World) : OwnG lo hi w (.slice none 0 0) [] := ⟨[], World.ownsRow_nil w lo _ 1, fun g hg => by simp [Value.ownBlock] at hg, RowsOf.nil _ _ _⟩

theorem OwnG.lt {lo hi : Nat} {w : World} {v : Value} {rows : List (List Int)} (h : OwnG lo hi w v rows) {g : Nat} (hg : v.ownBlock = some g) : lo ≤ g ∧ g < hi ∧ g < w.heap.size := by
  obtain ⟨cs, h1, h2, _⟩ := h
  exact ⟨(h1.lt g hg).1, h2 g hg, (h1.lt g hg).2⟩

theorem OwnG.mono {lo hi lo' hi' : Nat} {w : World} {v : Value} {rows : List (List Int)} (h : OwnG lo hi w v rows) (h1 : lo' ≤ lo) (h2 : hi ≤ hi') : OwnG lo' hi' w v rows := by
  have hl := fun g hg => h.lt (g := g) hg
  obtain ⟨cs, h3, h4, h5⟩ := h
  exact ⟨cs, ownsRow_base h3 (fun g hg => Nat.le_trans h1 (hl g hg).1), fun g hg => Nat.lt_of_lt_of_le (h4 g hg) h2, h5.mono h1 h2⟩

theorem OwnG.only {lo hi lo' hi' : Nat} {w w' : World} {v : Value} {rows : List (List Int)} (h : OwnG lo hi w v rows) (ho : Only lo' hi' w w') (hd : hi ≤ lo' ∨ hi' ≤ lo) : OwnG lo hi w' v rows := by
  have hl := fun g hg => h.lt (g := g) hg
  obtain ⟨cs, h3, h4, h5⟩ := h
  exact ⟨cs, ownsRow_block h3 (fun g hg => by have := hl g hg; exact ho.block g this.2.2 (by omega)), h4, h5.keep fun g h1 h2 h3 _ => ho.block g h3 (by omega)⟩

theorem OwnG.below {lo hi : Nat} {w w' : World} {v : Value} {rows : List (List Int)} (h : OwnG lo hi w v rows) (hb : Below w.heap.size w w') : OwnG lo hi w' v rows := by
  have hl := fun g hg => h.lt (g := g) hg
  obtain ⟨cs, h3, h4, h5⟩ := h
  exact ⟨cs, ownsRow_block h3 (fun g hg => hb.block g (hl g hg).2.2), h4, h5.below hb⟩

theorem OwnG.block' {lo hi : Nat} {w w' : World} {v : Value} {rows : List (List Int)} (h : OwnG lo hi w v rows) (hb : ∀ g, lo ≤ g → g < hi → w'.heap[g]? = w.heap[g]?) (hs : w.heap.size ≤ w'.heap.size) : OwnG lo hi w' v rows := by
  have hl := fun g hg => h.lt (g := g) hg
  obtain ⟨cs, h3, h4, h5⟩ := h
  exact ⟨cs, ownsRow_block h3 (fun g hg => hb g (hl g hg).1 (hl g hg).2.1), h4, h5.keep fun g h1 h2 _ _ => hb g h1 h2⟩
theorem OwnG.set {lo hi : Nat} {w : World} {v : Value} {rows : List (List Int)} (h : OwnG lo hi w v rows) {a : Addr} (ha : a.block < lo) (u : Value) : OwnG lo hi (w.setCell a u) v rows :=
  h.block' (fun g h1 _ => Below.heap_setCell _ _ _ _ (by omega)) (by rw [size_set]; exact Nat.le_refl _)

/-- What it is as a value. -/
theorem OwnG.slice {lo hi : Nat} {w : World} {v : Value} {rows : List (List Int)} (h : OwnG lo hi w v rows) : ∃ a c, v = .slice a rows.length c ∧ grid.Reads w a rows ∧ rows.length ≤ c ∧ rows.length ≤ maxLen := by
  obtain ⟨cs, h1, h2, hl, ho, hd⟩ := h
  rcases h1.2 with ⟨rfl, h0⟩ | ⟨g, cap, cur, rfl, hb, hh, hn, hm, hs, ht⟩
  · have : rows = [] := List.length_eq_zero_iff.1 h0
    subst this
    exact ⟨none, 0, rfl, .inl rfl, Nat.le_refl _, by simp⟩
  · refine ⟨some ⟨g, 0, none⟩, cap, rfl, .inr ⟨g, 0, rfl, (Array.getElem?_eq_some_iff.1 hh).1, fun i hi => ?_⟩, hn, by omega⟩
    obtain ⟨p, c, hv, hr, hc, _⟩ := (ho i hi).slice
    have hx := h1.cells (g := g) rfl i (cs.getD i undef) (by rw [List.getD_eq_getElem?_getD, List.getElem?_eq_getElem (by omega)]; simp)
    rw [Go.WideShapes.add_plain, hv] at hx
    exact ⟨p, c, hx, hc, hr⟩

theorem take_snoc_getD (rows : List (List Int)) (k : Nat) (h : k < rows.length) : rows.take (k + 1) = rows.take k ++ [rows.getD k []] := by
  rw [List.take_succ_eq_append_getElem h, List.getD_eq_getElem?_getD, List.getElem?_eq_getElem h]; rfl

/-- A slice made at its whole length whose first k rows are filled. -/
def OwnPart (lo g : Nat) (w : World) (rows : List (List Int)) (k : Nat) : Prop :=
  ∃ cs : List Value, w.ownsRow lo 23 1 (.slice (some ⟨g, 0, none⟩) rows.length rows.length) rows.length (cs ++ List.replicate (rows.length - k) (.slice none 0 0)) ∧ RowsOf lo w.heap.size w cs (rows.take k) ∧ k ≤ rows.length

theorem OwnPart.start {lo g : Nat} {w : World} {rows : List (List Int)} (h : w.ownsRow lo 23 1 (.slice (some ⟨g, 0, none⟩) rows.length rows.length) rows.length (List.replicate rows.length (.slice none 0 0))) : OwnPart lo g w rows 0 :=
  ⟨[], by simpa using h, by simpa using RowsOf.nil _ _ _, Nat.zero_le _⟩

theorem OwnPart.done {lo g : Nat} {w : World} {rows : List (List Int)} (h : OwnPart lo g w rows rows.length) : OwnG lo w.heap.size w (.slice (some ⟨g, 0, none⟩) rows.length rows.length) rows := by
  obtain ⟨cs, h1, h2, _⟩ := h
  rw [List.take_length] at h2
  exact ⟨cs, by simpa using h1, fun g' hg => (h1.lt g' hg).2, h2⟩

theorem OwnPart.store {lo g : Nat} {w w2 : World} {rows : List (List Int)} {k : Nat} {v : Value} (h : OwnPart lo g w rows k) (hlt : k < rows.length) (hb : Below w.heap.size w w2) (hv : OwnI w.heap.size w2.heap.size w2 v (rows.getD k [])) :
    w2.cell? ⟨g, k, none⟩ = some (.slice none 0 0) ∧ w2.frozen? ⟨g, k, none⟩ = false ∧ OwnPart lo g (w2.setCell ⟨g, k, none⟩ v) rows (k + 1) := by
  obtain ⟨cs, h1, h2, h3⟩ := h
  have hg := (h1.lt g rfl)
  have hcl : cs.length = k := by have := h2.1; simp at this; omega
  have h1' := ownsRow_block (w' := w2) h1 (fun g' hg' => hb.block g' (h1.lt g' hg').2)
  have hst := (h1'.stored k v).1
  refine ⟨?_, h1'.frozenAt k, cs ++ [v], ?_, ?_, by omega⟩
  · rw [h1'.cellAt k (by omega), List.getElem?_append_right (by omega), hcl, Nat.sub_self, List.getElem?_replicate, if_pos (by omega)]
  · have e : (cs ++ List.replicate (rows.length - k) (Value.slice none 0 0)).set k v = cs ++ [v] ++ List.replicate (rows.length - (k + 1)) (.slice none 0 0) := by
      rw [List.set_append, if_neg (by omega), hcl, Nat.sub_self, show rows.length - k = (rows.length - (k + 1)) + 1 by omega, List.replicate_succ, List.set_cons_zero, List.append_assoc]
      rfl
    rw [e] at hst
    exact hst
  · have hsz : (w2.setCell ⟨g, k, none⟩ v).heap.size = w2.heap.size := by simp [World.setCell]
    rw [take_snoc_getD rows k hlt, hsz]
    have hty : ∀ (c : Value) (r : List Int) (l' h' : Nat), OwnI l' h' w2 c r → ∀ g', c.ownBlock = some g' → g' ≠ g := fun c r l' h' ho g' hg' e => by
      subst e
      exact ownsRow_ne ho.1 h1' (by decide) hg' rfl
    have k1 := (h2.below hb).keep (w' := w2.setCell ⟨g, k, none⟩ v) fun g' _ _ _ ⟨i, hi, he⟩ => Below.heap_setCell _ _ _ _ (hty _ _ _ _ ((h2.below hb).2.1 i hi) g' he)
    exact k1.snoc (hv.block fun g' he => Below.heap_setCell _ _ _ _ (hty _ _ _ _ hv g' he)) (by omega) hb.size

theorem OwnC.stir {lo hi : Nat} {w w' : World} {v : Value} {rows : List (List Int)} {cs : List Value} {S : Nat → Prop} (h : OwnC lo hi w v rows cs) (ht : Stir S w w') (h1 : ∀ g, v.ownBlock = some g → ¬ S g) (h2 : ∀ g, Blk cs rows.length g → ¬ S g) : OwnC lo hi w' v rows cs :=
  ⟨ownsRow_block h.1 (fun g hg => ht.block g (h.1.lt g hg).2 (h1 g hg)), h.2.1, h.2.2.keep fun g _ _ h3 h4 => ht.block g h3 (h2 g h4)⟩
theorem OwnI.stir {lo hi : Nat} {w w' : World} {v : Value} {zs : List Int} {S : Nat → Prop} (h : OwnI lo hi w v zs) (ht : Stir S w w') (h1 : ∀ g, v.ownBlock = some g → ¬ S g) : OwnI lo hi w' v zs :=
  h.block fun g hg => ht.block g (h.lt hg).2.2 (h1 g hg)
theorem OwnC.blk {lo hi : Nat} {w : World} {v : Value} {rows : List (List Int)} {cs : List Value} (h : OwnC lo hi w v rows cs) {g : Nat} (hg : Blk cs rows.length g) : lo ≤ g ∧ g < hi ∧ g < w.heap.size := by
  obtain ⟨i, hi, he⟩ := hg
  exact (h.2.2.2.1 i hi).lt he

/-- A list of lists and a list of integers beside it. -/
def OwnS (lo hi : Nat) (w : World) (p l : Value) (rows : List (List Int)) (zs : List Int) : Prop :=
  ∃ cs : List Value, OwnC lo hi w p rows cs ∧ OwnI lo hi w l zs ∧ (∀ g, l.ownBlock = some g → ¬ Blk cs rows.length g)

theorem OwnS.of {lo hi l1 h1 l2 h2 : Nat} {w : World} {p l : Value} {rows : List (List Int)} {zs : List Int} (hp : OwnG l1 h1 w p rows) (hl : OwnI l2 h2 w l zs) (hd : h1 ≤ l2 ∨ h2 ≤ l1) (e1 : lo ≤ l1) (e2 : lo ≤ l2) (e3 : h1 ≤ hi) (e4 : h2 ≤ hi) : OwnS lo hi w p l rows zs := by
  obtain ⟨cs, h⟩ := hp
  refine ⟨cs, ⟨ownsRow_base h.1 fun g hg => Nat.le_trans e1 (h.1.lt g hg).1, fun g hg => Nat.lt_of_lt_of_le (h.2.1 g hg) e3, h.2.2.mono e1 e3⟩, hl.mono e2 e4, fun g hg hb => ?_⟩
  have k1 := h.blk hb
  have k2 := hl.lt hg
  omega

theorem OwnS.only {lo hi lo' hi' : Nat} {w w' : World} {p l : Value} {rows : List (List Int)} {zs : List Int} (h : OwnS lo hi w p l rows zs) (ho : Only lo' hi' w w') (hd : hi ≤ lo' ∨ hi' ≤ lo) : OwnS lo hi w' p l rows zs := by
  obtain ⟨cs, h1, h2, h3⟩ := h
  refine ⟨cs, ⟨ownsRow_block h1.1 fun g hg => ?_, h1.2.1, h1.2.2.keep fun g k1 k2 k3 _ => ho.block g k3 (by omega)⟩, h2.only ho hd, h3⟩
  have := h1.1.lt g hg
  have := h1.2.1 g hg
  exact ho.block g (by omega) (by omega)

theorem OwnS.below {lo hi : Nat} {w w' : World} {p l : Value} {rows : List (List Int)} {zs : List Int} (h : OwnS lo hi w p l rows zs) (hb : Below w.heap.size w w') : OwnS lo hi w' p l rows zs := by
  obtain ⟨cs, h1, h2, h3⟩ := h
  exact ⟨cs, ⟨ownsRow_block h1.1 fun g hg => hb.block g (h1.1.lt g hg).2, h1.2.1, h1.2.2.below hb⟩, h2.below hb, h3⟩

theorem OwnS.mono {lo hi lo' hi' : Nat} {w : World} {p l : Value} {rows : List (List Int)} {zs : List Int} (h : OwnS lo hi w p l rows zs) (e1 : lo' ≤ lo) (e3 : hi ≤ hi') : OwnS lo' hi' w p l rows zs := by
  obtain ⟨cs, h, h2, h3⟩ := h
  exact ⟨cs, ⟨ownsRow_base h.1 fun g hg => Nat.le_trans e1 (h.1.lt g hg).1, fun g hg => Nat.lt_of_lt_of_le (h.2.1 g hg) e3, h.2.2.mono e1 e3⟩, h2.mono e1 e3, h3⟩

theorem OwnS.grid {lo hi : Nat} {w : World} {p l : Value} {rows : List (List Int)} {zs : List Int} (h : OwnS lo hi w p l rows zs) : OwnG lo hi w p rows := by
  obtain ⟨cs, h1, _⟩ := h
  exact ⟨cs, h1⟩
theorem OwnS.ints {lo hi : Nat} {w : World} {p l : Value} {rows : List (List Int)} {zs : List Int} (h : OwnS lo hi w p l rows zs) : OwnI lo hi w l zs := by
  obtain ⟨cs, _, h1, _⟩ := h
  exact h1

/-- What a copy is. -/
def MadeG (rows : List (List Int)) (w : World) (e : Ending) (w' : World) : Prop :=
  ∃ v, e = .returned v ∧ OwnG w.heap.size w'.heap.size w' v rows ∧ Below w.heap.size w w'

/-- The marks of rows, from a number on. -/
def mk (K : Nat) (rows : List (List Int)) (i : Nat) : List Int := intfns.marks (K + grid.tot (rows.take i)) (rows.getD i []).length
def markPart (K : Nat) (rows : List (List Int)) (k : Nat) : List (List Int) := (List.range rows.length).map fun i => if i < k then mk K rows i else rows.getD i []
def markRows (K : Nat) (rows : List (List Int)) : List (List Int) := markPart K rows rows.length

theorem markPart_length (K : Nat) (rows : List (List Int)) (k : Nat) : (markPart K rows k).length = rows.length := by simp [markPart]
theorem markPart_getD (K : Nat) (rows : List (List Int)) (k i : Nat) (h : i < rows.length) : (markPart K rows k).getD i [] = if i < k then mk K rows i else rows.getD i [] := by
  rw [List.getD_eq_getElem?_getD]; simp [markPart, h]
theorem markPart_zero (K : Nat) (rows : List (List Int)) : markPart K rows 0 = rows := by
  apply List.ext_getElem?
  intro i
  by_cases h : i < rows.length
  · have := markPart_getD K rows 0 i h
    rw [List.getD_eq_getElem?_getD, List.getElem?_eq_getElem (by rw [markPart_length]; exact h)] at this
    rw [List.getElem?_eq_getElem (by rw [markPart_length]; exact h), List.getElem?_eq_getElem h]
    simp [List.getElem?_eq_getElem h] at this
    rw [this]
  · rw [List.getElem?_eq_none (by rw [markPart_length]; omega), List.getElem?_eq_none (by omega)]
theorem markRows_length (K : Nat) (rows : List (List Int)) : (markRows K rows).length = rows.length := markPart_length _ _ _
theorem markRows_getD (K : Nat) (rows : List (List Int)) (i : Nat) (h : i < rows.length) : (markRows K rows).getD i [] = mk K rows i := by
  unfold markRows; rw [markPart_getD _ _ _ _ h, if_pos h]

/-- One more row is marked. -/
theorem RowsOf.mark {lo hi K k : Nat} {w w' : World} {cs : List Value} {rows : List (List Int)} (h : RowsOf lo hi w cs (markPart K rows k)) (hk : k < rows.length)
    (hm : OwnI lo hi w' (cs.getD k undef) (mk K rows k)) (hg : ∀ row, (cs.getD k undef).ownBlock = row → w.grownBy w' row) : RowsOf lo hi w' cs (markPart K rows (k + 1)) := by
  obtain ⟨h1, h2, h3⟩ := h
  rw [markPart_length] at h1 h2 h3
  refine ⟨by rw [markPart_length]; exact h1, fun i hi => ?_, fun i j hij hj => ?_⟩
  · rw [markPart_length] at hi
    rw [markPart_getD _ _ _ _ hi]
    by_cases e : i = k
    · subst e
      rw [if_pos (by omega)]
      exact hm
    · have := h2 i hi
      rw [markPart_getD _ _ _ _ hi] at this
      simp only [show (i < k + 1) ↔ (i < k) from by omega]
      refine this.block fun g hgi => (hg _ rfl).block g (this.lt hgi).2.2 fun e2 => ?_
      rcases Nat.lt_or_gt_of_ne e with hl | hl
      · exact h3 i k hl hk g hgi e2.symm
      · exact h3 k i hl hi g e2.symm hgi
  · rw [markPart_length] at hj
    exact h3 i j hij hj
theorem OwnI.reads {lo hi : Nat} {w : World} {a : Option Addr} {n c : Nat} {zs : List Int} (h : OwnI lo hi w (.slice a n c) zs) : ints.Reads .i64 w a zs := by
  obtain ⟨a', c', e, hr, _, _⟩ := h.slice
  cases e
  exact hr
theorem OwnG.reads {lo hi : Nat} {w : World} {a : Option Addr} {n c : Nat} {rows : List (List Int)} (h : OwnG lo hi w (.slice a n c) rows) : grid.Reads w a rows := by
  obtain ⟨a', c', e, hr, _, _⟩ := h.slice
  cases e
  exact hr
theorem Only.cell {lo hi : Nat} {w w' : World} (h : Only lo hi w w') {b o : Nat} {x : Value} (hx : w.cell? ⟨b, o, none⟩ = some x) (hs : b < w.heap.size) (hb : b < lo ∨ hi ≤ b) : w'.cell? ⟨b, o, none⟩ = some x :=
  (World.cell?_of_block (h.block b hs hb)).trans hx
theorem cell_below {B : Nat} {w w' : World} (h : Below B w w') {b o : Nat} {x : Value} (hx : w.cell? ⟨b, o, none⟩ = some x) (hb : b < B) : w'.cell? ⟨b, o, none⟩ = some x :=
  (h.cell (p := ⟨b, o, none⟩) hb).trans hx
theorem cell_new (w : World) (cs : Array Value) (T : TypeId) {b o : Nat} {x : Value} (hb : b = w.heap.size) (hx : cs[o]? = some x) : (w.alloc (.cells cs T)).cell? ⟨b, o, none⟩ = some x := by
  subst hb
  have hh : (w.alloc (.cells cs T)).heap[w.heap.size]? = some (.cells cs T (0, 0)) := heap_alloc_new w _
  unfold World.cell?
  rw [hh]
  exact hx
theorem cell_old {w : World} (O : Obj) {b o : Nat} {x : Value} (hx : w.cell? ⟨b, o, none⟩ = some x) : (w.alloc O).cell? ⟨b, o, none⟩ = some x :=
  (World.cell?_of_block (Below.heap_alloc w O b (World.block_lt_of_cell? w _ hx))).trans hx
theorem below_alloc (w : World) (O : Obj) : Below w.heap.size w (w.alloc O) := (Below.refl _ _).alloc (Nat.le_refl _) O
theorem size_alloc' (w : World) (O : Obj) : w.heap.size < (w.alloc O).heap.size := by simp

/-- How a call ends. -/
def RetB (ok : Bool) (w : World) (e : Ending) (w' : World) : Prop := e = .returned (.bool ok) ∧ Below w.heap.size w w'
def RetN (n : Int) (w : World) (e : Ending) (w' : World) : Prop := e = .returned (.int .i64 n) ∧ Below w.heap.size w w'
def RetNB (n : Int) (ok : Bool) (w : World) (e : Ending) (w' : World) : Prop := e = .returned (.tuple #[.int .i64 n, .bool ok]) ∧ Below w.heap.size w w'
def RetBB (b ok : Bool) (w : World) (e : Ending) (w' : World) : Prop := e = .returned (.tuple #[.bool b, .bool ok]) ∧ Below w.heap.size w w'
def RetNNB (n m : Int) (ok : Bool) (w : World) (e : Ending) (w' : World) : Prop := e = .returned (.tuple #[.int .i64 n, .int .i64 m, .bool ok]) ∧ Below w.heap.size w w'
def RetIB (zs : List Int) (ok : Bool) (w : World) (e : Ending) (w' : World) : Prop := ∃ v, e = .returned (.tuple #[v, .bool ok]) ∧ OwnI w.heap.size w'.heap.size w' v zs ∧ Below w.heap.size w w'
def RetPB (zs : List Int) (b : Int) (ok : Bool) (w : World) (e : Ending) (w' : World) : Prop := ∃ v, e = .returned (.tuple #[.agg #[v, .int .i64 b], .bool ok]) ∧ OwnI w.heap.size w'.heap.size w' v zs ∧ Below w.heap.size w w'
def RetSB (rows : List (List Int)) (zs : List Int) (ok : Bool) (w : World) (e : Ending) (w' : World) : Prop := ∃ p l, e = .returned (.tuple #[.agg #[p, l], .bool ok]) ∧ OwnS w.heap.size w'.heap.size w' p l rows zs ∧ Below w.heap.size w w'
theorem own_empty (w : World) : OwnI w.heap.size (w.heap.size + 1) (w.alloc (.cells #[] 3)) (.slice (some ⟨w.heap.size, 0, none⟩) 0 0) [] :=
  ⟨World.ownsRow_made (base := w.heap.size) (e := 3) (size := 1) w #[] 0 (Nat.le_refl _) (by unfold maxLen; omega) rfl, fun g hg => by simp [Value.ownBlock] at hg; omega⟩
theorem ret_empty {W w1 : World} (h : Below W.heap.size W w1) : RetIB [] false W (.returned (.tuple #[.slice (some ⟨w1.heap.size, 0, none⟩) 0 0, .bool false])) (w1.alloc (.cells #[] 3)) :=
  ⟨_, rfl, (own_empty w1).mono h.size (by simp), h.alloc h.size _⟩
theorem fro_new (w : World) (cs : Array Value) (T : TypeId) {b o : Nat} (hb : b = w.heap.size) : (w.alloc (.cells cs T)).frozen? ⟨b, o, none⟩ = false := by
  subst hb
  have hh : (w.alloc (.cells cs T)).heap[w.heap.size]? = some (.cells cs T (0, 0)) := heap_alloc_new w _
  unfold World.frozen?
  rw [hh]
  simp
theorem fro_below {B : Nat} {w w' : World} (h : Below B w w') {b o : Nat} (hx : w.frozen? ⟨b, o, none⟩ = false) (hb : b < B) : w'.frozen? ⟨b, o, none⟩ = false :=
  (h.frozen (p := ⟨b, o, none⟩) hb).trans hx
end Go.Proofs.Ytkbcofgigfnfaab.own
