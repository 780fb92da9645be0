/- Stumps as plain data, and lists of planes that grow. -/
import Derived.Test.YtkbcofgigfnfaabBndI
import Derived.Test.YtkbcofgigfnfaabPlanesL
import Derived.Test.YtkbcofgigfnfaabMk
namespace Go.Proofs.Ytkbcofgigfnfaab.stmp
open Go.RowKit own pp nums bndp bndi
set_option linter.unusedVariables false
set_option linter.unusedSimpArgs false

def unitL (n pl : Nat) (wt : Int) : List Int := (List.replicate n 0).set pl wt
theorem unit_length (n pl : Nat) (wt : Int) : (unitL n pl wt).length = n := by simp [unitL]
def stAt (n pl : Nat) (wt : Int) (bs : List Int) : List (List Int × Int) := bs.map fun b => (unitL n pl wt, b)
theorem stAt_length (n pl : Nat) (wt : Int) (bs : List Int) : (stAt n pl wt bs).length = bs.length := by simp [stAt]
theorem stAt_succ (n pl : Nat) (wt : Int) (bs : List Int) (k : Nat) (h : k < bs.length) : stAt n pl wt (bs.take (k + 1)) = stAt n pl wt (bs.take k) ++ [(unitL n pl wt, bs.getD k 0)] := by
  unfold stAt
  rw [List.take_succ_eq_append_getElem h, List.map_append, List.getD_eq_getElem?_getD, List.getElem?_eq_getElem h]
  rfl
/-- The stumps of the first places. -/
def stumpTo (rows : List (List Int)) (n : Nat) : Nat → List (List Int × Int)
  | 0 => []
  | k + 1 => stumpTo rows n k ++ (stAt n k 1 (bnds rows k 1) ++ stAt n k (-1) (bnds rows k (-1)))
def stumpL (rows : List (List Int)) : List (List Int × Int) := stumpTo rows (rows.getD 0 []).length (rows.getD 0 []).length
theorem bnds_length (rows : List (List Int)) (pl : Nat) (wt : Int) (h : rows.length ≤ 16) : (bnds rows pl wt).length ≤ 17 := by
  have h1 := bnd_length (valsL rows pl wt rows.length)
  rw [vals_length rows pl wt rows.length (Nat.le_refl _)] at h1
  unfold bnds; omega
theorem stumpTo_length (rows : List (List Int)) (n k : Nat) (h : rows.length ≤ 16) : (stumpTo rows n k).length ≤ k * 34 := by
  induction k with
  | zero => simp [stumpTo]
  | succ k ih =>
    have h1 := bnds_length rows k 1 h
    have h2 := bnds_length rows k (-1) h
    unfold stumpTo
    rw [List.length_append, List.length_append, stAt_length, stAt_length]
    omega
theorem emptyJ (w : World) : OwnK w.heap.size (w.heap.size + 1) (w.alloc (.cells #[] 56)) (.slice (some ⟨w.heap.size, 0, none⟩) 0 0) [] [] :=
  ⟨World.ownsRow_made (base := w.heap.size) (e := 56) (size := 2) w #[] 0 (Nat.le_refl _) (by unfold maxLen; omega) rfl, fun g hg => by simp [Value.ownBlock] at hg; omega, RowsOf.nil _ _ _⟩
theorem RowsOf.grow {lo hi : Nat} {w : World} {cs : List Value} {rows : List (List Int)} (h : RowsOf lo hi w cs rows) : RowsOf lo w.heap.size w cs rows := by
  refine ⟨h.1, fun i hi' => (h.2.1 i hi').narrow fun g hg => ⟨((h.2.1 i hi').lt hg).1, ((h.2.1 i hi').lt hg).2.2⟩, h.2.2⟩
/-- One plane more, whose weights a call has made meanwhile. -/
theorem OwnK.push {B : Nat} {W W1 W2 : World} {v v' c : Value} {ps : List (List Int × Int)} {cs : List Value} {ws : List Int} {b : Int} (h : OwnK B W.heap.size W v ps cs) (hB : Below W.heap.size W W1) (hBW : B ≤ W.heap.size)
    (hc : OwnI W.heap.size W1.heap.size W1 c ws) (hrow : W2.ownsRow B 56 2 v' (ps.length + 1) (flatJ cs ps ++ [c, .int .i64 b])) (hg : W1.grownBy W2 v.ownBlock) : OwnK B W2.heap.size W2 v' (ps ++ [(ws, b)]) (cs ++ [c]) := by
  have hvl := fun g (e : v.ownBlock = some g) => h.1.lt g e
  have hr2 : RowsOf B W.heap.size W2 cs (ps.map Prod.fst) := (h.2.2.below hB).keep fun g _ _ hgs ⟨i, hi, he⟩ => hg.block g hgs fun e => by
    have hri := h.2.2.2.1 i hi
    exact ownsRow_ne hri.1 h.1 (by decide) he e.symm
  have hc2 : OwnI W.heap.size W2.heap.size W2 c ws := (hc.block fun g he => hg.block g (hc.lt he).2.2 fun e => by
    have h1 := hvl g e.symm
    have h2 := hc.lt he
    omega).mono (Nat.le_refl _) hg.size
  exact OwnK.snoc hr2 hrow (fun g e => (hrow.lt g e).2) hc2 hBW (Nat.le_trans hB.size hg.size)
theorem infoP : (Try.prog.info? 56).map (fun i => (i.zero, i.size, i.bytes)) = some (some (.agg #[.slice none 0 0, .int .i64 0]), 2, 32) := by kernel_rfl
theorem zero_unit (n pl : Nat) (wt : Int) : (List.replicate n (Value.int .i64 0)).set pl (.int .i64 wt) = (unitL n pl wt).map (Value.int .i64) := by
  unfold unitL
  rw [List.map_set, List.map_replicate]
end Go.Proofs.Ytkbcofgigfnfaab.stmp
