/- Several texts in one. -/
import Derived.Test.YthohnnobahcdpaaSortI
import Derived.Test.YthohnnobahcdpaaBrG20
import Derived.Test.YthohnnobahcdpaaPlainPlane
import Derived.Test.YthohnnobahcdpaaBrG11
namespace Go.Proofs.Ythohnnobahcdpaa.bndi
open Go.RowKit own pp nums bndp sorti
set_option linter.unusedVariables false
set_option linter.unusedSimpArgs false

/-- The numbers of all points at a place, by a weight. -/
def valsL (rows : List (List Int)) (pl : Nat) (wt : Int) (k : Nat) : List Int := (rows.take k).map fun r => wt * r.getD pl 0
theorem vals_length (rows : List (List Int)) (pl : Nat) (wt : Int) (k : Nat) (h : k ≤ rows.length) : (valsL rows pl wt k).length = k := by simp [valsL]; omega
theorem vals_succ (rows : List (List Int)) (pl : Nat) (wt : Int) (k : Nat) (h : k < rows.length) : valsL rows pl wt (k + 1) = valsL rows pl wt k ++ [wt * (rows.getD k []).getD pl 0] := by
  unfold valsL
  rw [List.take_succ_eq_append_getElem h, List.map_append, List.getD_eq_getElem?_getD (l := rows), List.getElem?_eq_getElem h]
  rfl
def PlFit (rows : List (List Int)) (pl : Nat) : Prop := ∀ k, k < rows.length → pl < (rows.getD k []).length ∧ -9 ≤ (rows.getD k []).getD pl 0 ∧ (rows.getD k []).getD pl 0 ≤ 9
theorem wt_bd {z wt : Int} (h : -9 ≤ z ∧ z ≤ 9) (hw : wt = 1 ∨ wt = -1) : -9 ≤ wt * z ∧ wt * z ≤ 9 := by rcases hw with rfl | rfl <;> omega
theorem vals_bd {rows : List (List Int)} {pl : Nat} {wt : Int} (h : PlFit rows pl) (hw : wt = 1 ∨ wt = -1) (k : Nat) (hk : k ≤ rows.length) : ∀ x ∈ valsL rows pl wt k, -9 ≤ x ∧ x ≤ 9 := by
  intro x hx
  induction k with
  | zero => simp [valsL] at hx
  | succ k ih =>
    rw [vals_succ rows pl wt k (by omega), List.mem_append, List.mem_singleton] at hx
    rcases hx with hx | rfl
    · exact ih (by omega) hx
    · exact wt_bd (h k (by omega)).2 hw
def bnds (rows : List (List Int)) (pl : Nat) (wt : Int) : List Int := bndL (valsL rows pl wt rows.length)

set_option maxRecDepth 100000 in
set_option maxHeartbeats 1600000 in
theorem impl_bounds (a : Option Addr) (rows : List (List Int)) (c : Nat) (a' : Option Addr) (zs : List Int) (c' : Nat) (pl : Nat) (wt : Int) (w : World) (hr : grid.Reads w a rows) (h16 : rows.length ≤ 16) (h0 : 0 < rows.length) (hF : PlFit rows pl) (hw : wt = 1 ∨ wt = -1) :
    Calls Try.prog 113 #[.agg #[.slice a rows.length c, .slice a' zs.length c'], .int .i64 pl, .int .i64 wt] w (intfns.Made (bnds rows pl wt) w) := by
  obtain ⟨i0, hi, hz0, hz1, hz2⟩ := info_parts mk.infoInt
  have HR := Lib.hid hr
  have HF := Lib.hid hF
  have HW := Lib.hid hw
  clear hr hF hw
  go_enter Try.func113, Try.ntmps113
  obtain ⟨wb1, hw1⟩ : ∃ wb1 : World, wb1 = w.alloc (.cells #[.slice a rows.length c, .slice a' zs.length c'] 38) := ⟨_, rfl⟩
  have z1 : wb1.heap.size = w.heap.size + 1 := by rw [hw1]; simp
  have x0_0 := (by rw [hw1]; exact cell_new _ _ _ rfl rfl : wb1.cell? ⟨w.heap.size, 0, none⟩ = some (.slice a rows.length c))
  have x0_1 := (by rw [hw1]; exact cell_new _ _ _ rfl rfl : wb1.cell? ⟨w.heap.size, 1, none⟩ = some (.slice a' zs.length c'))
  have HB0 := Lib.hid (show Below w.heap.size w wb1 by rw [hw1]; exact (Below.refl w.heap.size w).alloc (Nat.le_refl _) _)
  have s1 : w.heap.size + 1 ≤ wb1.heap.size := by omega
  have HZ1 := Lib.hid z1
  clear z1
  go_wp2_with fail
  rw [← hw1]
  clear hw1
  rw [← HZ1.out]
  have hown0 := (own_empty wb1).1
  have hb0 := below_alloc wb1 (.cells #[] 3)
  go_loopw [7, 14] (fun v i wr => ∃ k : Nat, k ≤ rows.length ∧ i = .int .i64 k ∧ wr.ownsRow wb1.heap.size 3 1 v k ((valsL rows pl wt k).map (Value.int .i64)) ∧ Below wb1.heap.size wb1 wr ∧ (∃ g c, v = .slice (some ⟨g, 0, none⟩) k c)) (fun _ i _ => rows.length - (intOf i).toNat)
  case atStart => exact ⟨0, Nat.zero_le _, rfl, hown0, hb0, _, _, rfl⟩
  case round =>
    obtain ⟨k, hk, rfl, hown, hbel, gv, cv, hv9⟩ := hrel
    have hvb := hown.lt
    clear hown0 hb0
    replace x0_0 := cell_below hbel x0_0 (by omega)
    have hsz := hbel.size
    by_cases hlt : k < rows.length
    · obtain ⟨bl, off, rp, rq, hab, hbl, hc, hpq, hrow⟩ := (HR.out.below HB0.out).at hlt
      subst hab
      replace hc := cell_below hbel hc (by omega)
      have hFk := HF.out k hlt
      obtain ⟨pb, po, hpe, hpb, hpc⟩ := hrow.at hFk.1
      subst hpe
      replace hpc := cell_below hbel hpc (by omega)
      have HS := Lib.hid (vals_succ rows pl wt k hlt)
      have hwb := wt_bd hFk.2 HW.out
      have hzl := vals_length rows pl wt k hk
      have HO := Lib.hid hown
      have HV := Lib.hid hvb
      have HBl := Lib.hid hbel
      have i1 : (0 : Int) ≤ (k : Int) := by omega
      have i2 : (k : Int) < (rows.length : Int) := by omega
      have i3 : (pl : Int) < ((rows.getD k []).length : Int) := by omega
      have i4 : (0 : Int) ≤ (pl : Int) := by omega
      have e1 : IntKind.i64.wrap (wt * (rows.getD k []).getD pl 0) = wt * (rows.getD k []).getD pl 0 := IntWalk.i64_in _ (by omega)
      clear hown hbel hvb hv9 hFk hrow hpq hwb hzl
      generalize (rows.getD k []).getD pl 0 = z at *
      generalize (rows.getD k []).length = rl at *
      go_wp2_with (at_builtin; refine wpList_append_own _ rfl _ _ 22 rfl wb1.heap.size 3 i0 (.int .i64 0) 1 8 Try.underlying22 hi hz0 hz1 hz2 rfl (by decide) _ _ _ rfl (HO.out.alloc _) ⟨wr.heap.size, 0, none⟩ 1 1 [.int .i64 (wt * z)] rfl rfl (cell_one_new _ _ _) (by simp [Value.oneCell']) (by unfold maxLen; omega) (by omega) (by simp; omega) ?_; intro v' w2 hown' hgrow _)
      obtain ⟨g', cap', hv'⟩ := ownsRow_succ hown'
      subst hv'
      have HO2 := Lib.hid hown'
      have HB2 := Lib.hid ((HBl.out.alloc hsz _).grown hgrow (by simp; omega) (fun g e => (HV.out g e).1))
      clear hown' hgrow
      go_wp2_with fail
      go_roundw
      case rel => exact ⟨k + 1, by omega, by go_num, by rw [HS.out, List.map_append]; exact HO2.out, HB2.out, _, _, rfl⟩
      case measure => simp [intOf]; omega
    · obtain rfl : k = rows.length := by omega
      subst hv9
      have hlen := vals_length rows pl wt rows.length (Nat.le_refl _)
      have hne : valsL rows pl wt rows.length ≠ [] := fun e => by rw [e] at hlen; simp at hlen; omega
      have HBD := Lib.hid (vals_bd (wt := wt) HF.out HW.out rows.length (Nat.le_refl _) _ (maxOf_mem _ hne))
      have HEQ := Lib.hid (show Lib.compact ((valsL rows pl wt rows.length ++ [Lib.maxOf (valsL rows pl wt rows.length) + 1]).mergeSort fun x y => decide (x ≤ y)) = bnds rows pl wt from bnd_eq _ hne)
      generalize bnds rows pl wt = res9 at *
      generalize valsL rows pl wt rows.length = vs at *
      rw [← hlen] at hown
      have HMX := Lib.hid (Try.slices_Max_int gv 0 vs.length cv vs wr (by omega) (Nat.le_refl _) (by omega) (fun j hj => by rw [Nat.zero_add, hown.cellAt j (by omega), List.getElem?_map, List.getElem?_eq_getElem hj, List.getD_eq_getElem?_getD, List.getElem?_eq_getElem hj]; rfl))
      rw [List.take_length] at HMX
      have HO := Lib.hid hown
      have HV := Lib.hid hvb
      have HBl := Lib.hid hbel
      have HLEN := Lib.hid hlen
      rw [hlen] at HMX HO
      have hbd := HBD.out
      have e1 : IntKind.i64.wrap (Lib.maxOf vs + 1) = Lib.maxOf vs + 1 := IntWalk.i64_in _ (by omega)
      have HDEC := Lib.hid (show Lib.compact ((vs ++ [Lib.maxOf vs + 1]).mergeSort fun x y => decide (x ≤ y)) = res9 from HEQ.out)
      clear hown hbel hvb hlen hne hbd HBD HEQ
      generalize Lib.maxOf vs = mm at *
      go_wp2_with fail
      refine HMX.out.mono ?_
      rintro e w' ⟨rfl, hww⟩
      rw [hww]
      clear hww
      go_wp2_with (at_builtin; refine wpList_append_own _ rfl _ _ 22 rfl wb1.heap.size 3 i0 (.int .i64 0) 1 8 Try.underlying22 hi hz0 hz1 hz2 rfl (by decide) _ _ _ rfl (HO.out.alloc _) ⟨wr.heap.size, 0, none⟩ 1 1 [.int .i64 (mm + 1)] rfl rfl (cell_one_new _ _ _) (by simp [Value.oneCell']) (by unfold maxLen; omega) (by omega) (by simp; omega) ?_; intro v' w2 hown' hgrow _)
      obtain ⟨g', cap', hv'⟩ := ownsRow_succ hown'
      subst hv'
      have HO2 := Lib.hid (show w2.ownsRow wb1.heap.size 3 1 (.slice (some ⟨g', 0, none⟩) (vs ++ [mm + 1]).length cap') (vs ++ [mm + 1]).length ((vs ++ [mm + 1]).map (Value.int .i64)) by
        rw [List.map_append, List.length_append, HLEN.out]; exact hown')
      have HB2 := Lib.hid ((HBl.out.alloc hsz _).grown hgrow (by simp; omega) (fun g e => (HV.out g e).1))
      have HL2 := Lib.hid (show (vs ++ [mm + 1]).length = rows.length + 1 by rw [List.length_append, HLEN.out]; rfl)
      have HST := Lib.hid (fun (W : World) (h : W.ownsRow wb1.heap.size 3 1 (.slice (some ⟨g', 0, none⟩) (vs ++ [mm + 1]).length cap') (vs ++ [mm + 1]).length ((vs ++ [mm + 1]).map (Value.int .i64))) => sort_own wb1.heap.size g' cap' (vs ++ [mm + 1]) W h (by have := HL2.out; omega))
      rw [HL2.out] at HST HO2
      clear hown' hgrow
      generalize vs ++ [mm + 1] = us at *
      go_wp2_with fail
      refine (HST.out w2 HO2.out).mono ?_
      rintro e w3 ⟨rfl, ho3, hb3⟩
      have HB3 := Lib.hid (HB2.out.trans (hb3.mono (Nat.le_refl _)))
      have hsl : (us.mergeSort fun x y => decide (x ≤ y)).length = rows.length + 1 := by rw [List.length_mergeSort]; exact HL2.out
      rw [← hsl] at ho3
      have HC := Lib.hid (compact_own wb1.heap.size g' cap' _ w3 ho3 (by omega))
      rw [hsl, HDEC.out] at HC
      clear ho3 hb3 hsl HST HDEC HL2
      go_wp2_with fail
      refine HC.out.mono ?_
      rintro e w4 ⟨rfl, ho4, hb4⟩
      have HO4 := Lib.hid ((OwnI.of ho4).mono (Nat.le_trans (by omega) (Nat.le_refl wb1.heap.size)) (Nat.le_refl _) : OwnI w.heap.size w4.heap.size w4 _ res9)
      have HB4 := Lib.hid (HB0.out.trans ((HB3.out.trans (hb4.mono (Nat.le_refl _))).mono (by omega)))
      clear ho4 hb4
      go_wp2_with fail
      go_ret
      exact ⟨_, rfl, HO4.out, HB4.out⟩
end Go.Proofs.Ythohnnobahcdpaa.bndi

namespace Go.Proofs.Ythohnnobahcdpaa.stmp
open Go.RowKit own pp nums bndp bndi
set_option linter.unusedVariables false
set_option linter.unusedSimpArgs false

def unitL (n pl : Nat) (wt : Int) : List Int := (List.replicate n 0).set pl wt
theorem unit_length (n pl : Nat) (wt : Int) : (unitL n pl wt).length = n := by simp [unitL]
def stAt (n pl : Nat) (wt : Int) (bs : List Int) : List (List Int × Int) := bs.map fun b => (unitL n pl wt, b)
theorem stAt_length (n pl : Nat) (wt : Int) (bs : List Int) : (stAt n pl wt bs).length = bs.length := by simp [stAt]
theorem stAt_succ (n pl : Nat) (wt : Int) (bs : List Int) (k : Nat) (h : k < bs.length) : stAt n pl wt (bs.take (k + 1)) = stAt n pl wt (bs.take k) ++ [(unitL n pl wt, bs.getD k 0)] := by
  unfold stAt
  rw [List.take_succ_eq_append_getElem h, List.map_append, List.getD_eq_getElem?_getD, List.getElem?_eq_getElem h]
  rfl
/-- The stumps of the first places. -/
def stumpTo (rows : List (List Int)) (n : Nat) : Nat → List (List Int × Int)
  | 0 => []
  | k + 1 => stumpTo rows n k ++ (stAt n k 1 (bnds rows k 1) ++ stAt n k (-1) (bnds rows k (-1)))
def stumpL (rows : List (List Int)) : List (List Int × Int) := stumpTo rows (rows.getD 0 []).length (rows.getD 0 []).length
theorem bnds_length (rows : List (List Int)) (pl : Nat) (wt : Int) (h : rows.length ≤ 16) : (bnds rows pl wt).length ≤ 17 := by
  have h1 := bnd_length (valsL rows pl wt rows.length)
  rw [vals_length rows pl wt rows.length (Nat.le_refl _)] at h1
  unfold bnds; omega
theorem stumpTo_length (rows : List (List Int)) (n k : Nat) (h : rows.length ≤ 16) : (stumpTo rows n k).length ≤ k * 34 := by
  induction k with
  | zero => simp [stumpTo]
  | succ k ih =>
    have h1 := bnds_length rows k 1 h
    have h2 := bnds_length rows k (-1) h
    unfold stumpTo
    rw [List.length_append, List.length_append, stAt_length, stAt_length]
    omega
theorem emptyJ (w : World) : OwnK w.heap.size (w.heap.size + 1) (w.alloc (.cells #[] 27)) (.slice (some ⟨w.heap.size, 0, none⟩) 0 0) [] [] :=
  ⟨World.ownsRow_made (base := w.heap.size) (e := 27) (size := 2) w #[] 0 (Nat.le_refl _) (by unfold maxLen; omega) rfl, fun g hg => by simp [Value.ownBlock] at hg; omega, RowsOf.nil _ _ _⟩
theorem RowsOf.grow {lo hi : Nat} {w : World} {cs : List Value} {rows : List (List Int)} (h : RowsOf lo hi w cs rows) : RowsOf lo w.heap.size w cs rows := by
  refine ⟨h.1, fun i hi' => (h.2.1 i hi').narrow fun g hg => ⟨((h.2.1 i hi').lt hg).1, ((h.2.1 i hi').lt hg).2.2⟩, h.2.2⟩
/-- One plane more, whose weights a call has made meanwhile. -/
theorem OwnK.push {B : Nat} {W W1 W2 : World} {v v' c : Value} {ps : List (List Int × Int)} {cs : List Value} {ws : List Int} {b : Int} (h : OwnK B W.heap.size W v ps cs) (hB : Below W.heap.size W W1) (hBW : B ≤ W.heap.size)
    (hc : OwnI W.heap.size W1.heap.size W1 c ws) (hrow : W2.ownsRow B 27 2 v' (ps.length + 1) (flatJ cs ps ++ [c, .int .i64 b])) (hg : W1.grownBy W2 v.ownBlock) : OwnK B W2.heap.size W2 v' (ps ++ [(ws, b)]) (cs ++ [c]) := by
  have hvl := fun g (e : v.ownBlock = some g) => h.1.lt g e
  have hr2 : RowsOf B W.heap.size W2 cs (ps.map Prod.fst) := (h.2.2.below hB).keep fun g _ _ hgs ⟨i, hi, he⟩ => hg.block g hgs fun e => by
    have hri := h.2.2.2.1 i hi
    exact ownsRow_ne hri.1 h.1 (by decide) he e.symm
  have hc2 : OwnI W.heap.size W2.heap.size W2 c ws := (hc.block fun g he => hg.block g (hc.lt he).2.2 fun e => by
    have h1 := hvl g e.symm
    have h2 := hc.lt he
    omega).mono (Nat.le_refl _) hg.size
  exact OwnK.snoc hr2 hrow (fun g e => (hrow.lt g e).2) hc2 hBW (Nat.le_trans hB.size hg.size)
theorem infoP : (Try.prog.info? 27).map (fun i => (i.zero, i.size, i.bytes)) = some (some (.agg #[.slice none 0 0, .int .i64 0]), 2, 32) := by kernel_rfl
theorem zero_unit (n pl : Nat) (wt : Int) : (List.replicate n (Value.int .i64 0)).set pl (.int .i64 wt) = (unitL n pl wt).map (Value.int .i64) := by
  unfold unitL
  rw [List.map_set, List.map_replicate]
end Go.Proofs.Ythohnnobahcdpaa.stmp
