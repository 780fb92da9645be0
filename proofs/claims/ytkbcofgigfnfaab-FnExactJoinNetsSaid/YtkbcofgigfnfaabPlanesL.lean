/- Lists of planes in memory, read and made: plain lemmas, no condition. -/
import Derived.Test.YtkbcofgigfnfaabOwnG
import Derived.Test.YtkbcofgigfnfaabNums
namespace Go.Proofs.Ytkbcofgigfnfaab.own
open Go.RowKit
set_option linter.unusedVariables false

/-- The cells of planes whose weights' headers are cs. -/
def flatJ : List Value → List (List Int × Int) → List Value
  | c :: cs, x :: ps => c :: .int .i64 x.2 :: flatJ cs ps
  | _, _ => []
theorem flatJ_length (cs : List Value) (ps : List (List Int × Int)) (h : cs.length = ps.length) : (flatJ cs ps).length = ps.length * 2 := by
  induction ps generalizing cs with
  | nil => cases cs <;> rfl
  | cons x ps ih =>
    cases cs with
    | nil => cases h
    | cons c cs =>
      have := ih cs (by simpa using h)
      simp only [flatJ, List.length_cons, this]; omega
theorem flatJ_at (cs : List Value) (ps : List (List Int × Int)) (h : cs.length = ps.length) (k : Nat) (hk : k < ps.length) : (flatJ cs ps)[k * 2]? = some (cs.getD k undef) ∧ (flatJ cs ps)[k * 2 + 1]? = some (.int .i64 (ps.getD k ([], 0)).2) := by
  induction ps generalizing cs k with
  | nil => simp at hk
  | cons x ps ih =>
    cases cs with
    | nil => cases h
    | cons c cs =>
      cases k with
      | zero => exact ⟨rfl, rfl⟩
      | succ k =>
        have := ih cs (by simpa using h) k (by simpa using hk)
        rw [show (k + 1) * 2 = k * 2 + 2 by omega]
        exact this
theorem flatJ_snoc (cs : List Value) (ps : List (List Int × Int)) (h : cs.length = ps.length) (c : Value) (x : List Int × Int) : flatJ (cs ++ [c]) (ps ++ [x]) = flatJ cs ps ++ [c, .int .i64 x.2] := by
  induction ps generalizing cs with
  | nil =>
    cases cs with
    | nil => rfl
    | cons _ _ => cases h
  | cons y ps ih =>
    cases cs with
    | nil => cases h
    | cons d cs =>
      have := ih cs (by simpa using h)
      simp only [List.cons_append, flatJ, this]
theorem wsJ_getD (ps : List (List Int × Int)) (k : Nat) : (ps.map Prod.fst).getD k [] = (ps.getD k ([], 0)).1 := by
  rw [List.getD_eq_getElem?_getD, List.getD_eq_getElem?_getD, List.getElem?_map]
  cases ps[k]? <;> rfl
/-- A slice of planes: its own block, and the weights in theirs. -/
def OwnK (lo hi : Nat) (w : World) (v : Value) (ps : List (List Int × Int)) (cs : List Value) : Prop :=
  w.ownsRow lo 56 2 v ps.length (flatJ cs ps) ∧ (∀ g, v.ownBlock = some g → g < hi) ∧ RowsOf lo hi w cs (ps.map Prod.fst)
def OwnJ (lo hi : Nat) (w : World) (v : Value) (ps : List (List Int × Int)) : Prop := ∃ cs : List Value, OwnK lo hi w v ps cs
/-- The slice with this address reads as these planes. -/
def ReadsJ (w : World) (a : Option Addr) (ps : List (List Int × Int)) : Prop :=
  ps = [] ∨ ∃ b off, a = some ⟨b, off, none⟩ ∧ b < w.heap.size ∧ ∀ k, k < ps.length → ∃ p c, w.cell? ⟨b, off + k * 2, none⟩ = some (.slice p (ps.getD k ([], 0)).1.length c) ∧ w.cell? ⟨b, off + k * 2 + 1, none⟩ = some (.int .i64 (ps.getD k ([], 0)).2) ∧
    (ps.getD k ([], 0)).1.length ≤ c ∧ ints.Reads .i64 w p (ps.getD k ([], 0)).1
theorem ReadsJ.at {w : World} {a : Option Addr} {ps : List (List Int × Int)} (h : ReadsJ w a ps) {k : Nat} (hk : k < ps.length) : ∃ b off p c, a = some ⟨b, off, none⟩ ∧ b < w.heap.size ∧ w.cell? ⟨b, off + k * 2, none⟩ = some (.slice p (ps.getD k ([], 0)).1.length c) ∧
    w.cell? ⟨b, off + k * 2 + 1, none⟩ = some (.int .i64 (ps.getD k ([], 0)).2) ∧ (ps.getD k ([], 0)).1.length ≤ c ∧ ints.Reads .i64 w p (ps.getD k ([], 0)).1 := by
  rcases h with rfl | ⟨b, off, e, hb, hc⟩
  · simp at hk
  · obtain ⟨p, c, h1, h2, h3, h4⟩ := hc k hk
    exact ⟨b, off, p, c, e, hb, h1, h2, h3, h4⟩
theorem ReadsJ.below {w w' : World} {a : Option Addr} {ps : List (List Int × Int)} (h : ReadsJ w a ps) (hb : Below w.heap.size w w') : ReadsJ w' a ps := by
  rcases h with rfl | ⟨b, off, e, hlt, hc⟩
  · exact .inl rfl
  · refine .inr ⟨b, off, e, Nat.lt_of_lt_of_le hlt hb.size, fun k hk => ?_⟩
    obtain ⟨p, c, h1, h2, h3, h4⟩ := hc k hk
    exact ⟨p, c, cell_below hb h1 hlt, cell_below hb h2 hlt, h3, h4.below hb⟩
theorem OwnJ.nil (lo hi : Nat) (w : World) : OwnJ lo hi w (.slice none 0 0) [] := ⟨[], World.ownsRow_nil w lo _ 2, fun g hg => by simp [Value.ownBlock] at hg, RowsOf.nil _ _ _⟩
theorem OwnJ.lt {lo hi : Nat} {w : World} {v : Value} {ps : List (List Int × Int)} (h : OwnJ lo hi w v ps) {g : Nat} (hg : v.ownBlock = some g) : lo ≤ g ∧ g < hi ∧ g < w.heap.size := by
  obtain ⟨cs, h1, h2, _⟩ := h
  exact ⟨(h1.lt g hg).1, h2 g hg, (h1.lt g hg).2⟩
theorem OwnJ.mono {lo hi lo' hi' : Nat} {w : World} {v : Value} {ps : List (List Int × Int)} (h : OwnJ lo hi w v ps) (h1 : lo' ≤ lo) (h2 : hi ≤ hi') : OwnJ lo' hi' w v ps := by
  have hl := fun g hg => h.lt (g := g) hg
  obtain ⟨cs, h3, h4, h5⟩ := h
  exact ⟨cs, ownsRow_base h3 (fun g hg => Nat.le_trans h1 (hl g hg).1), fun g hg => Nat.lt_of_lt_of_le (h4 g hg) h2, h5.mono h1 h2⟩
theorem OwnJ.only {lo hi lo' hi' : Nat} {w w' : World} {v : Value} {ps : List (List Int × Int)} (h : OwnJ lo hi w v ps) (ho : Only lo' hi' w w') (hd : hi ≤ lo' ∨ hi' ≤ lo) : OwnJ lo hi w' v ps := by
  have hl := fun g hg => h.lt (g := g) hg
  obtain ⟨cs, h3, h4, h5⟩ := h
  exact ⟨cs, ownsRow_block h3 (fun g hg => by have := hl g hg; exact ho.block g this.2.2 (by omega)), h4, h5.keep fun g h1 h2 h3 _ => ho.block g h3 (by omega)⟩
theorem OwnJ.below {lo hi : Nat} {w w' : World} {v : Value} {ps : List (List Int × Int)} (h : OwnJ lo hi w v ps) (hb : Below w.heap.size w w') : OwnJ lo hi w' v ps := by
  have hl := fun g hg => h.lt (g := g) hg
  obtain ⟨cs, h3, h4, h5⟩ := h
  exact ⟨cs, ownsRow_block h3 (fun g hg => hb.block g (hl g hg).2.2), h4, h5.below hb⟩
theorem OwnJ.block' {lo hi : Nat} {w w' : World} {v : Value} {ps : List (List Int × Int)} (h : OwnJ lo hi w v ps) (hb : ∀ g, lo ≤ g → g < hi → w'.heap[g]? = w.heap[g]?) (hs : w.heap.size ≤ w'.heap.size) : OwnJ lo hi w' v ps := by
  have hl := fun g hg => h.lt (g := g) hg
  obtain ⟨cs, h3, h4, h5⟩ := h
  exact ⟨cs, ownsRow_block h3 (fun g hg => hb g (hl g hg).1 (hl g hg).2.1), h4, h5.keep fun g h1 h2 _ _ => hb g h1 h2⟩
theorem OwnJ.set {lo hi : Nat} {w : World} {v : Value} {ps : List (List Int × Int)} (h : OwnJ lo hi w v ps) {a : Addr} (ha : a.block < lo) (u : Value) : OwnJ lo hi (w.setCell a u) v ps :=
  h.block' (fun g h1 _ => Below.heap_setCell _ _ _ _ (by omega)) (by rw [size_set]; exact Nat.le_refl _)
/-- What it is as a value. -/
theorem OwnJ.slice {lo hi : Nat} {w : World} {v : Value} {ps : List (List Int × Int)} (h : OwnJ lo hi w v ps) : ∃ a c, v = .slice a ps.length c ∧ ReadsJ w a ps ∧ ps.length ≤ c ∧ ps.length ≤ maxLen := by
  obtain ⟨cs, h1, h2, hl, ho, hd⟩ := h
  have hl' : cs.length = ps.length := by rw [hl, List.length_map]
  rcases h1.2 with ⟨rfl, h0⟩ | ⟨g, cap, cur, rfl, hb, hh, hn, hm, hs, ht⟩
  · have : ps = [] := List.length_eq_zero_iff.1 h0
    subst this
    exact ⟨none, 0, rfl, .inl rfl, Nat.le_refl _, Nat.zero_le _⟩
  · refine ⟨some ⟨g, 0, none⟩, cap, rfl, .inr ⟨g, 0, rfl, (Array.getElem?_eq_some_iff.1 hh).1, fun k hk => ?_⟩, hn, by omega⟩
    obtain ⟨p, c, hv, hr, hc, _⟩ := (ho k (by rw [List.length_map]; exact hk)).slice
    rw [wsJ_getD] at hv hr hc
    rw [Nat.zero_add]
    refine ⟨p, c, ?_, ?_, hc, hr⟩
    · rw [h1.cellAt (k * 2) (by omega), (flatJ_at cs ps hl' k hk).1, hv]
    · rw [h1.cellAt (k * 2 + 1) (by omega), (flatJ_at cs ps hl' k hk).2]
theorem OwnJ.reads {lo hi : Nat} {w : World} {a : Option Addr} {n c : Nat} {ps : List (List Int × Int)} (h : OwnJ lo hi w (.slice a n c) ps) : ReadsJ w a ps := by
  obtain ⟨a', c', e, hr, _, _⟩ := h.slice
  cases e
  exact hr
/-- One plane more. -/
theorem OwnK.snoc {lo hi hi' : Nat} {w : World} {v c : Value} {ps : List (List Int × Int)} {cs : List Value} {x : List Int × Int} (hr : RowsOf lo hi w cs (ps.map Prod.fst)) (ho : w.ownsRow lo 56 2 v (ps.length + 1) (flatJ cs ps ++ [c, .int .i64 x.2]))
    (hv : ∀ g, v.ownBlock = some g → g < hi') (hc : OwnI hi hi' w c x.1) (h1 : lo ≤ hi) (h2 : hi ≤ hi') : OwnK lo hi' w v (ps ++ [x]) (cs ++ [c]) := by
  have hl : cs.length = ps.length := by rw [hr.1, List.length_map]
  refine ⟨?_, hv, ?_⟩
  · rw [flatJ_snoc cs ps hl, List.length_append]; exact ho
  · rw [List.map_append]
    exact hr.snoc hc h1 h2
/-- The cells of planes that are not there yet. -/
def zerosJ : Nat → List Value
  | 0 => []
  | m + 1 => .slice none 0 0 :: .int .i64 0 :: zerosJ m
theorem zerosJ_length (m : Nat) : (zerosJ m).length = m * 2 := by
  induction m with
  | zero => rfl
  | succ m ih => simp only [zerosJ, List.length_cons, ih]; omega
theorem zerosJ_set (F : List Value) (m n : Nat) (h : F.length = n) (v u : Value) : ((F ++ zerosJ (m + 1)).set n v).set (n + 1) u = F ++ [v, u] ++ zerosJ m := by
  subst h
  rw [List.set_append, if_neg (by omega), Nat.sub_self, zerosJ, List.set_cons_zero, List.set_append, if_neg (by omega), show F.length + 1 - F.length = 1 by omega, List.set_cons_succ, List.set_cons_zero, List.append_assoc]
  rfl
theorem take_snocJ (ps : List (List Int × Int)) (k : Nat) (h : k < ps.length) : ps.take (k + 1) = ps.take k ++ [ps.getD k ([], 0)] := by
  rw [List.take_succ_eq_append_getElem h, List.getD_eq_getElem?_getD, List.getElem?_eq_getElem h]; rfl
/-- A slice made at its whole length whose first k planes are filled. -/
def OwnPartJ (lo g : Nat) (w : World) (ps : List (List Int × Int)) (k : Nat) : Prop :=
  ∃ cs : List Value, w.ownsRow lo 56 2 (.slice (some ⟨g, 0, none⟩) ps.length ps.length) ps.length (flatJ cs (ps.take k) ++ zerosJ (ps.length - k)) ∧ RowsOf lo w.heap.size w cs ((ps.take k).map Prod.fst) ∧ k ≤ ps.length
theorem OwnPartJ.start {lo g : Nat} {w : World} {ps : List (List Int × Int)} (h : w.ownsRow lo 56 2 (.slice (some ⟨g, 0, none⟩) ps.length ps.length) ps.length (zerosJ ps.length)) : OwnPartJ lo g w ps 0 :=
  ⟨[], by simpa [flatJ] using h, by simpa using RowsOf.nil _ _ _, Nat.zero_le _⟩
theorem OwnPartJ.done {lo g : Nat} {w : World} {ps : List (List Int × Int)} (h : OwnPartJ lo g w ps ps.length) : OwnJ lo w.heap.size w (.slice (some ⟨g, 0, none⟩) ps.length ps.length) ps := by
  obtain ⟨cs, h1, h2, _⟩ := h
  rw [List.take_length] at h1 h2
  rw [Nat.sub_self] at h1
  exact ⟨cs, by simpa [zerosJ] using h1, fun g' hg => (h1.lt g' hg).2, h2⟩
theorem OwnPartJ.store {lo g : Nat} {w w2 : World} {ps : List (List Int × Int)} {k : Nat} {v : Value} (h : OwnPartJ lo g w ps k) (hlt : k < ps.length) (hb : Below w.heap.size w w2) (hv : OwnI w.heap.size w2.heap.size w2 v (ps.getD k ([], 0)).1) :
    (w2.cell? ⟨g, k * 2, none⟩ = some (.slice none 0 0) ∧ w2.frozen? ⟨g, k * 2, none⟩ = false ∧ w2.cell? ⟨g, k * 2 + 1, none⟩ = some (.int .i64 0) ∧ w2.frozen? ⟨g, k * 2 + 1, none⟩ = false) ∧
      OwnPartJ lo g ((w2.setCell ⟨g, k * 2, none⟩ v).setCell ⟨g, k * 2 + 1, none⟩ (.int .i64 (ps.getD k ([], 0)).2)) ps (k + 1) := by
  obtain ⟨cs, h1, h2, h3⟩ := h
  have hg := (h1.lt g rfl)
  have hcl : cs.length = k := by have := h2.1; simp at this; omega
  have htl : (ps.take k).length = k := by rw [List.length_take]; omega
  have hF : (flatJ cs (ps.take k)).length = k * 2 := by rw [flatJ_length _ _ (by omega), htl]
  have h1' := ownsRow_block (w' := w2) h1 (fun g' hg' => hb.block g' (h1.lt g' hg').2)
  have hst := ((h1'.stored (k * 2) v).1.stored (k * 2 + 1) (.int .i64 (ps.getD k ([], 0)).2)).1
  have hm : ps.length - k = (ps.length - (k + 1)) + 1 := by omega
  have hzl := zerosJ_length (ps.length - k)
  refine ⟨⟨?_, h1'.frozenAt _, ?_, h1'.frozenAt _⟩, cs ++ [v], ?_, ?_, by omega⟩
  · rw [h1'.cellAt (k * 2) (by omega), List.getElem?_append_right (by omega), hF, Nat.sub_self, hm]; rfl
  · rw [h1'.cellAt (k * 2 + 1) (by omega), List.getElem?_append_right (by omega), hF, show k * 2 + 1 - k * 2 = 1 by omega, hm]; rfl
  · rw [hm, zerosJ_set _ _ _ hF] at hst
    rw [take_snocJ ps k hlt, flatJ_snoc _ _ (by omega)]
    exact hst
  · have hsz : ((w2.setCell ⟨g, k * 2, none⟩ v).setCell ⟨g, k * 2 + 1, none⟩ (.int .i64 (ps.getD k ([], 0)).2)).heap.size = w2.heap.size := by simp [World.setCell]
    rw [take_snocJ ps k hlt, hsz, List.map_append]
    have hty : ∀ (c : Value) (r : List Int) (l' h' : Nat), OwnI l' h' w2 c r → ∀ g', c.ownBlock = some g' → g' ≠ g := fun c r l' h' ho g' hg' e => by
      subst e
      exact ownsRow_ne ho.1 h1' (by decide) hg' rfl
    have hkeep : ∀ g', g' ≠ g → ((w2.setCell ⟨g, k * 2, none⟩ v).setCell ⟨g, k * 2 + 1, none⟩ (.int .i64 (ps.getD k ([], 0)).2)).heap[g']? = w2.heap[g']? := fun g' e => (Below.heap_setCell _ _ _ _ e).trans (Below.heap_setCell _ _ _ _ e)
    have k1 := (h2.below hb).keep (w' := (w2.setCell ⟨g, k * 2, none⟩ v).setCell ⟨g, k * 2 + 1, none⟩ (.int .i64 (ps.getD k ([], 0)).2)) fun g' _ _ _ ⟨i, hi, he⟩ => hkeep g' (hty _ _ _ _ ((h2.below hb).2.1 i hi) g' he)
    exact k1.snoc (hv.block fun g' he => hkeep g' (hty _ _ _ _ hv g' he)) (by omega) hb.size
/-- What a function returns: planes that it made, and a truth value. -/
def RetJB (ps : List (List Int × Int)) (ok : Bool) (w : World) (e : Ending) (w' : World) : Prop := ∃ v, e = .returned (.tuple #[v, .bool ok]) ∧ OwnJ w.heap.size w'.heap.size w' v ps ∧ Below w.heap.size w w'
end Go.Proofs.Ytkbcofgigfnfaab.own
