/- Several texts in one. -/
import Derived.Test.YtoephhhofkmgjabSpG9
import Derived.Test.YtoephhhofkmgjabSpG15
import Derived.Test.YtoephhhofkmgjabSpG12
import Derived.Test.YtoephhhofkmgjabSpG6
namespace Go.Proofs.Ytoephhhofkmgjab.givep
open Go.RowKit own pp netp range
set_option linter.unusedVariables false

/-- What a gate gives. -/
def bitv (p : List Int × Int) (xs : List Int) : Int := if side p.1 p.2 xs = 1 then 1 else 0
def gv (l : List (List Int × Int)) (xs : List Int) (k : Nat) : Int := bitv (l.getD k ([], 0)) xs
/-- What a layer gives. -/
def give (l : List (List Int × Int)) (xs : List Int) : List Int := mk.mk (gv l xs) l.length
theorem give_length (l : List (List Int × Int)) (xs : List Int) : (give l xs).length = l.length := mk.mk_length _ _
theorem bitv_cases (p : List Int × Int) (xs : List Int) : bitv p xs = 0 ∨ bitv p xs = 1 := by unfold bitv; split <;> simp
theorem mk_bits (f : Nat → Int) (m : Nat) (h : ∀ k, f k = 0 ∨ f k = 1) : numsB 1 (mk.mk f m) = true := all_true _ 0 _ fun k hk => by
  rw [mk.mk_length] at hk
  rw [mk.mk_getD _ _ _ hk, inB_iff]
  rcases h k with e | e <;> rw [e] <;> omega
/-- All gates of a layer suit what it is given. -/
def Suits (l : List (List Int × Int)) (xs : List Int) : Prop := ∀ k, k < l.length → planeB (l.getD k ([], 0)).1 (l.getD k ([], 0)).2 = true ∧ (l.getD k ([], 0)).1.length = xs.length
theorem suit_small {l : List (List Int × Int)} {xs : List Int} (h : Suits l xs) (hb : numsB 1 xs = true) (k : Nat) (hk : k < l.length) : Small (l.getD k ([], 0)).1 xs := by
  obtain ⟨h1, h2⟩ := h k hk
  exact small_of ((planeB_iff _ _).1 h1).2.2.1 hb (by decide) (by omega)
/-- What the first k layers give. -/
def runTo (ls : List (List (List Int × Int))) (xs : List Int) : Nat → List Int
  | 0 => xs
  | k + 1 => give (ls.getD k []) (runTo ls xs k)
theorem run_succ (ls : List (List (List Int × Int))) (xs : List Int) (k : Nat) : runTo ls xs (k + 1) = give (ls.getD k []) (runTo ls xs k) := rfl
theorem run_length {n : Int} {ls : List (List (List Int × Int))} {xs : List Int} (hx : (xs.length : Int) = n) (k : Nat) : (runTo ls xs k).length = giv n.toNat ls k := by
  cases k with
  | zero => rw [giv_zero]; show xs.length = _; omega
  | succ k => rw [run_succ, give_length, giv_succ]
theorem run_bits {ls : List (List (List Int × Int))} {xs : List Int} (hb : numsB 1 xs = true) (k : Nat) : numsB 1 (runTo ls xs k) = true := by
  cases k with
  | zero => exact hb
  | succ k => exact mk_bits _ _ fun i => bitv_cases _ _
theorem run_suits {n : Int} {ls : List (List (List Int × Int))} {xs : List Int} (h : netB n ls = true) (hx : (xs.length : Int) = n) (k : Nat) (hk : k < ls.length) : Suits (ls.getD k []) (runTo ls xs k) := fun i hi => by
  have := net_fit h k hk i hi
  rw [run_length hx]
  exact this
theorem row_bits {n : Int} {xs : List Int} (h : rowsB' n xs = true) : (xs.length : Int) = n ∧ numsB 1 xs = true := by
  simp only [rowsB', Bool.and_eq_true, decide_eq_true_eq] at h
  refine ⟨h.2, all_true _ 0 _ fun k hk => ?_⟩
  have := numsR_at h.1 k hk
  rw [inB_iff]; omega
def evB (n : Int) (ls : List (List (List Int × Int))) (xs : List Int) : Bool := netB n ls && rowsB' n xs
theorem ev_iff (n : Int) (ls : List (List (List Int × Int))) (xs : List Int) : evB n ls xs = true ↔ netB n ls = true ∧ rowsB' n xs = true := by simp [evB]
end Go.Proofs.Ytoephhhofkmgjab.givep

namespace Go.Proofs.Ytoephhhofkmgjab.tabp
open Go.RowKit own pp netp givep
set_option linter.unusedVariables false

/-- The j-th number of G 0, .., G (k - 1). -/
def col (G : Nat → List Int) (j k : Nat) : List Int := mk.mk (fun p => (G p).getD j 0) k
/-- The tables while place k is laid: those below i have it. -/
def rowsAt (G : Nat → List Int) (m k i : Nat) : List (List Int) := (List.range m).map fun j => col G j (if j < i then k + 1 else k)
theorem rowsAt_length (G : Nat → List Int) (m k i : Nat) : (rowsAt G m k i).length = m := by simp [rowsAt]
theorem rowsAt_getD (G : Nat → List Int) (m k i j : Nat) (h : j < m) : (rowsAt G m k i).getD j [] = col G j (if j < i then k + 1 else k) := by
  rw [List.getD_eq_getElem?_getD]; simp [rowsAt, h]
theorem rowsAt_zero (G : Nat → List Int) (m : Nat) : rowsAt G m 0 0 = List.replicate m [] := by
  apply List.ext_getElem (by simp [rowsAt])
  intro i h1 h2
  simp [rowsAt, col, mk.mk]
theorem rowsAt_next (G : Nat → List Int) (m k : Nat) : rowsAt G m k m = rowsAt G m (k + 1) 0 := by
  unfold rowsAt
  refine List.map_congr_left fun j hj => ?_
  rw [if_pos (List.mem_range.1 hj), if_neg (by omega)]
theorem rowsAt_set (G : Nat → List Int) (m k i : Nat) (h : i < m) : (rowsAt G m k i).set i ((rowsAt G m k i).getD i [] ++ [(G k).getD i 0]) = rowsAt G m k (i + 1) := by
  rw [rowsAt_getD _ _ _ _ _ h, if_neg (by omega)]
  apply List.ext_getElem (by simp [rowsAt])
  intro j h1 h2
  have hj : j < m := by simpa [rowsAt] using h2
  rw [List.getElem_set]
  by_cases e : i = j
  · subst e
    simp [rowsAt, col, mk.mk_succ]
  · rw [if_neg e]
    simp only [rowsAt, List.getElem_map, List.getElem_range]
    congr 1
    by_cases h3 : j < i
    · rw [if_pos h3, if_pos (by omega)]
    · rw [if_neg h3, if_neg (by omega)]
theorem col_len (G : Nat → List Int) (j k : Nat) : (col G j k).length = k := mk.mk_length _ _
theorem tot_const (rows : List (List Int)) (N : Nat) (h : ∀ r ∈ rows, r.length = N) : grid.tot rows = rows.length * N := by
  induction rows with
  | nil => simp [grid.tot]
  | cons r rows ih =>
    have h1 := ih fun x hx => h x (List.mem_cons_of_mem _ hx)
    have h2 := h r (List.mem_cons_self)
    simp only [grid.tot, List.map_cons, List.sum_cons, List.length_cons] at *
    rw [h1, h2, Nat.succ_mul]; omega

theorem getD_set_eq {α : Type} (l : List α) (i : Nat) (x d : α) (h : i < l.length) : (l.set i x).getD i d = x := by
  rw [List.getD_eq_getElem?_getD, List.getElem?_set, if_pos rfl, if_pos h]; rfl
theorem getD_set_ne {α : Type} (l : List α) (i j : Nat) (x d : α) (h : i ≠ j) : (l.set i x).getD j d = l.getD j d := by
  rw [List.getD_eq_getElem?_getD, List.getElem?_set, if_neg h, ← List.getD_eq_getElem?_getD]
/-- One number more in one row. -/
theorem put_at {lo : Nat} {w w1 w2 : World} {g0 m : Nat} {rows : List (List Int)} {cs : List Value} {i : Nat} {c' : Value} {b : Int}
    (h : OwnC lo w.heap.size w (.slice (some ⟨g0, 0, none⟩) m m) rows cs) (hm : rows.length = m) (hi : i < m) (hB : Below w.heap.size w w1)
    (hrow : w2.ownsRow lo 3 1 c' ((rows.getD i []).length + 1) ((rows.getD i []).map (Value.int .i64) ++ [.int .i64 b]))
    (hg : w1.grownBy w2 (cs.getD i undef).ownBlock) (hat : c'.ownBlock = (cs.getD i undef).ownBlock ∨ c'.ownBlock = some w1.heap.size) :
    (w2.cell? ⟨g0, i, none⟩ = some (cs.getD i undef) ∧ w2.frozen? ⟨g0, i, none⟩ = false) ∧
      OwnC lo w2.heap.size (w2.setCell ⟨g0, i, none⟩ c') (.slice (some ⟨g0, 0, none⟩) m m) (rows.set i (rows.getD i [] ++ [b])) (cs.set i c') := by
  subst hm
  obtain ⟨h1, h2, h3, h4, h5⟩ := h
  have hgl := h1.lt g0 rfl
  have hs1 := hB.size
  have hs2 := hg.size
  have hni : ∀ j, j < rows.length → ∀ g, (cs.getD j undef).ownBlock = some g → g ≠ g0 := fun j hj g e1 e2 => by
    subst e2
    exact ownsRow_ne (h4 j hj).1 h1 (by decide) e1 rfl
  have hk0 : w2.heap[g0]? = w.heap[g0]? := (hg.block g0 (by omega) fun e => hni i hi g0 e.symm rfl).trans (hB.block g0 hgl.2)
  have h1' := ownsRow_block (w' := w2) h1 (fun g hg' => by
    obtain rfl : g0 = g := by simpa [Value.ownBlock] using hg'
    exact hk0)
  have hci : cs[i]? = some (cs.getD i undef) := by rw [List.getD_eq_getElem?_getD, List.getElem?_eq_getElem (by omega)]; rfl
  have hst := (h1'.stored i c').1
  have hcn : ∀ g, c'.ownBlock = some g → g ≠ g0 := fun g e1 e2 => by
    subst e2
    exact ownsRow_ne hrow h1' (by decide) e1 rfl
  have hsz := size_set w2 ⟨g0, i, none⟩ c'
  refine ⟨⟨by rw [h1'.cellAt i (by omega)]; exact hci, h1'.frozenAt i⟩, ?_, fun g hg' => ?_, ?_, fun j hj => ?_, fun j k hjk hk g hg' => ?_⟩
  · rw [List.length_set]; exact hst
  · obtain rfl : g0 = g := by simpa [Value.ownBlock] using hg'
    omega
  · rw [List.length_set, List.length_set]; exact h3
  · rw [List.length_set] at hj
    by_cases e : i = j
    · subst e
      rw [getD_set_eq _ _ _ _ (by omega), getD_set_eq _ _ _ _ hj]
      have hr2 := ownsRow_block (w' := w2.setCell ⟨g0, i, none⟩ c') hrow (fun g hg' => Below.heap_setCell _ _ _ _ (hcn g hg'))
      exact ⟨by simpa using hr2, fun g hg' => (hrow.lt g hg').2⟩
    · rw [getD_set_ne _ _ _ _ _ e, getD_set_ne _ _ _ _ _ e]
      have ho := h4 j hj
      refine (ho.block (w' := w2.setCell ⟨g0, i, none⟩ c') fun g hg' => ?_).mono (Nat.le_refl _) (by omega)
      have hlt := ho.lt hg'
      refine (Below.heap_setCell _ _ _ _ (hni j hj g hg')).trans ((hg.block g (by omega) fun e2 => ?_).trans (hB.block g hlt.2.2))
      rcases Nat.lt_or_gt_of_ne e with hl | hl
      · exact h5 i j hl hj g e2.symm hg'
      · exact h5 j i hl hi g hg' e2.symm
  · rw [List.length_set] at hk
    by_cases e : i = j
    · subst e
      rw [getD_set_eq _ _ _ _ (by omega)] at hg'
      rw [getD_set_ne _ _ _ _ _ (by omega)]
      rcases hat with h6 | h6
      · rw [h6] at hg'; exact h5 i k hjk hk g hg'
      · rw [h6] at hg'
        intro e3
        have := (h4 k hk).lt e3
        simp at hg'; omega
    · by_cases e2 : i = k
      · subst e2
        rw [getD_set_ne _ _ _ _ _ e] at hg'
        rw [getD_set_eq _ _ _ _ (by omega)]
        rcases hat with h6 | h6
        · rw [h6]; exact h5 j i hjk hk g hg'
        · rw [h6]
          intro e3
          have := (h4 j (by omega)).lt hg'
          simp at e3; omega
      · rw [getD_set_ne _ _ _ _ _ e] at hg'
        rw [getD_set_ne _ _ _ _ _ e2]
        exact h5 j k hjk hk g hg'
/-- Rows that are all empty. -/
theorem rows_empty {lo : Nat} {w : World} {g0 m : Nat} (h : w.ownsRow lo 22 1 (.slice (some ⟨g0, 0, none⟩) m m) m (List.replicate m (.slice none 0 0))) : OwnC lo w.heap.size w (.slice (some ⟨g0, 0, none⟩) m m) (List.replicate m []) (List.replicate m (.slice none 0 0)) := by
  have hgl := h.lt g0 rfl
  refine ⟨by rw [List.length_replicate]; exact h, fun g hg' => ?_, by simp, fun j hj => ?_, fun j k hjk hk g hg' => ?_⟩
  · obtain rfl : g0 = g := by simpa [Value.ownBlock] using hg'
    omega
  · have hj' : j < m := by simpa using hj
    have e1 : (List.replicate m (Value.slice none 0 0)).getD j undef = .slice none 0 0 := by rw [List.getD_eq_getElem?_getD]; simp [hj']
    have e2 : (List.replicate m ([] : List Int)).getD j [] = [] := by rw [List.getD_eq_getElem?_getD]; simp [hj']
    rw [e1, e2]
    exact OwnI.nil _ _ _
  · have hj' : j < m := by simp at hk; omega
    have e1 : (List.replicate m (Value.slice none 0 0)).getD j undef = .slice none 0 0 := by rw [List.getD_eq_getElem?_getD]; simp [hj']
    rw [e1] at hg'
    simp [Value.ownBlock] at hg'
theorem OwnC.belowC {lo hi : Nat} {w w' : World} {v : Value} {rows : List (List Int)} {cs : List Value} (h : OwnC lo hi w v rows cs) (hb : Below w.heap.size w w') : OwnC lo hi w' v rows cs :=
  ⟨ownsRow_block h.1 (fun g hg => hb.block g (h.1.lt g hg).2), h.2.1, h.2.2.below hb⟩
theorem OwnC.widen {lo hi hi' : Nat} {w : World} {v : Value} {rows : List (List Int)} {cs : List Value} (h : OwnC lo hi w v rows cs) (h2 : hi ≤ hi') : OwnC lo hi' w v rows cs :=
  ⟨h.1, fun g hg => Nat.lt_of_lt_of_le (h.2.1 g hg) h2, h.2.2.mono (Nat.le_refl _) h2⟩
/-- The tables of a net. -/
def gvs (n : Nat) (ls : List (List (List Int × Int))) (p : Nat) : List Int := runTo ls (bitw.bitsTo p n) ls.length
def outs (ls : List (List (List Int × Int))) : Nat := (ls.getD (ls.length - 1) []).length
def tabs (n : Nat) (ls : List (List (List Int × Int))) : List (List Int) := rowsAt (gvs n ls) (outs ls) (2 ^ n) 0
theorem bits_numsB (p n : Nat) : numsB 1 (bitw.bitsTo p n) = true := all_true _ 0 _ fun k hk => by
  rw [bitw.bitsTo_length] at hk
  have e : (bitw.bitsTo p n).getD k 0 = ((p / 2 ^ k % 2 : Nat) : Int) := by rw [List.getD_eq_getElem?_getD]; simp [bitw.bitsTo, hk]
  rw [e, inB_iff]; omega
theorem gvs_length {n : Nat} {ls : List (List (List Int × Int))} (h : netB n ls = true) (p : Nat) : (gvs n ls p).length = outs ls := by
  have h1 := net_len h
  unfold gvs outs
  rw [run_length (n := (n : Int)) (by rw [bitw.bitsTo_length])]
  obtain ⟨q, hq⟩ : ∃ q, ls.length = q + 1 := ⟨ls.length - 1, by omega⟩
  rw [hq, giv_succ]
  rfl
theorem tabs_length (n : Nat) (ls : List (List (List Int × Int))) : (tabs n ls).length = outs ls := rowsAt_length _ _ _ _
theorem tabs_tot (n : Nat) (ls : List (List (List Int × Int))) : grid.tot (tabs n ls) = outs ls * 2 ^ n := by
  rw [tot_const _ (2 ^ n) fun r hr => ?_, tabs_length]
  obtain ⟨j, _, rfl⟩ := List.mem_map.1 hr
  rw [if_neg (by omega)]
  exact col_len _ _ _
end Go.Proofs.Ytoephhhofkmgjab.tabp
