/- Several texts in one. -/
import Derived.Deep.RegionHeld3
import Derived.Test.YthohnnobahcdpaaBrG43
import Derived.Test.YthohnnobahcdpaaBrG13
namespace Go.Proofs.Ythohnnobahcdpaa.markk
open Go.RowKit own pp nums planesfns boostl
set_option linter.unusedVariables false
set_option linter.unusedSimpArgs false

set_option maxHeartbeats 2000000 in
theorem mark_two (gh lo hi : Nat) (cs : List Value) (a : Option Addr) (c : Nat) (ps : List (List Int × Int)) (K : Nat) (w : World) (h : OwnK lo hi w (.slice a ps.length c) ps cs) (hav : Av gh (.slice a ps.length c) cs ps.length) (hgl : gh < w.heap.size) (h2 : K + totJ ps + ps.length ≤ 4611686018427387904) (hn : ps.length ≤ 9223372036854775807) :
    Calls Try.prog 28 #[.slice a ps.length c, .int .i64 K] w fun e w' => e = .returned (.int .i64 (K + totJ ps + ps.length : Nat)) ∧ OwnK lo hi w' (.slice a ps.length c) (markJ K ps) cs ∧ Only lo hi w w' ∧ w'.heap[gh]? = w.heap[gh]? := by
  obtain ⟨h1, hblk, h5⟩ := h
  have HAV := Lib.hid hav
  clear hav
  have HBK := Lib.hid hblk
  have H1 := Lib.hid (show w.ownsRow lo 27 2 (.slice a ps.length c) ps.length (flatJ cs (markPartJ K ps 0)) by rw [markPartJ_zero]; exact h1)
  have H5 := Lib.hid (show RowsOf lo hi w cs ((markPartJ K ps 0).map Prod.fst) by rw [markPartJ_zero]; exact h5)
  have hcl : cs.length = ps.length := by have := h5.1; rw [List.length_map] at this; exact this
  clear hblk h1 h5
  have HCL := Lib.hid hcl
  clear hcl
  go_enter Try.func28, Try.ntmps28
  go_wp2_with fail
  go_loopw [1, 5] (fun q i wr => ∃ k : Nat, k ≤ ps.length ∧ i = .int .i64 k ∧ q = .int .i64 (K + totJ (ps.take k) + k : Nat) ∧ wr.ownsRow lo 27 2 (.slice a ps.length c) ps.length (flatJ cs (markPartJ K ps k)) ∧ RowsOf lo hi wr cs ((markPartJ K ps k).map Prod.fst) ∧ Only lo hi w wr ∧ Hid (wr.heap[gh]? = w.heap[gh]?)) (fun _ i _ => ps.length - (intOf i).toNat)
  case atStart => exact ⟨0, Nat.zero_le _, rfl, by simp [totJ, grid.tot], H1.out, H5.out, Only.refl _ _ _, Lib.hid rfl⟩
  case round =>
    obtain ⟨k, hk, rfl, rfl, ho, hrow, hon, HGH⟩ := hrel
    by_cases hlt : k < ps.length
    · have hoi := hrow.2.1 k (by rw [List.length_map, markPartJ_length]; exact hlt)
      rw [wsJ_getD, markPartJ_getD _ _ _ _ hlt, if_neg (by omega)] at hoi
      obtain ⟨p, q, hv, hrd, hpc, hml⟩ := hoi.slice
      obtain ⟨g, rfl⟩ : ∃ g, a = some ⟨g, 0, none⟩ := by
        rcases ho.2 with ⟨e, h0⟩ | ⟨g, cap, cur, e, hl, hh, hn', hm, hs, ht⟩
        · omega
        · cases e; exact ⟨g, rfl⟩
      have hat := flatJ_at cs (markPartJ K ps k) (by rw [markPartJ_length]; exact HCL.out) k (by rw [markPartJ_length]; exact hlt)
      rw [markPartJ_getD _ _ _ _ hlt, if_neg (by omega), hv] at hat
      have hc : wr.cell? ⟨g, k * 2, none⟩ = some (.slice p (ps.getD k ([], 0)).1.length q) := by rw [ho.cellAt (k * 2) (by omega)]; exact hat.1
      have hd : wr.cell? ⟨g, k * 2 + 1, none⟩ = some (.int .i64 (ps.getD k ([], 0)).2) := by rw [ho.cellAt (k * 2 + 1) (by omega)]; exact hat.2
      have hgw := ho.lt g rfl
      have hgh := HBK.out g rfl
      clear hat hrd
      have HT := Lib.hid (totJ_succ ps k hlt)
      have hle := totJ_take_le ps (k + 1)
      rw [HT.out] at hle
      have HO := Lib.hid ho
      have HR := Lib.hid hrow
      have HN := Lib.hid hon
      have HV := Lib.hid hv
      rw [hv] at hoi
      clear ho hrow hon hv
      have HI := Lib.hid hoi
      clear hoi
      have HM := Lib.hid (show mkJ K ps k = (intfns.marks (K + totJ (ps.take k) + k) (ps.getD k ([], 0)).1.length, ((K + totJ (ps.take k) + k + (ps.getD k ([], 0)).1.length : Nat) : Int)) from rfl)
      generalize hx : totJ (ps.take k) = x at *
      generalize hs : (ps.getD k ([], 0)).1 = s at *
      generalize hs2 : (ps.getD k ([], 0)).2 = z at *
      clear hs hx hs2
      go_wp2_with fail
      refine (intfns.mark_any lo hi _ _ s (K + x + k) wr HI.out (by omega)).mono ?_
      rintro e w2 ⟨rfl, hoi2, hg2⟩
      have hIlt : ∀ gg, (Value.slice p s.length q).ownBlock = some gg → lo ≤ gg ∧ gg < hi ∧ gg < wr.heap.size := fun gg e => HI.out.lt e
      have hne : ∀ gg, (Value.slice p s.length q).ownBlock = some gg → gg ≠ g := fun gg e1 e2 => by
        subst e2
        exact ownsRow_ne HI.out.1 HO.out (by decide) e1 rfl
      have hgr := hg2 _ rfl
      have HG2 := Lib.hid hgr
      have ho2 := ownsRow_block (w' := w2) HO.out (fun g' hg' => by
        obtain rfl : g = g' := by simpa [Value.ownBlock] using hg'
        exact hgr.block g hgw.2 fun e => hne g e.symm rfl)
      have hc2 : w2.cell? ⟨g, k * 2 + 1, none⟩ = some (.int .i64 z) := (World.cell?_of_block (hgr.block g hgw.2 fun e => hne g e.symm rfl)).trans hd
      have hf2 := ho2.frozenAt (k * 2 + 1)
      have hst := (ho2.stored (k * 2 + 1) (.int .i64 ((K + x + k + s.length : Nat) : Int))).1
      have HST := Lib.hid hst
      have HI2 := Lib.hid hoi2
      have HNE := Lib.hid hne
      have HIL := Lib.hid hIlt
      have s2 := hgr.size
      clear hoi2 hg2 hgr ho2 hst hne hIlt
      go_wp2_with fail
      go_roundw
      case rel =>
        have e1 : Only lo hi wr w2 := Only.of_grown HG2.out fun g' hg' => ⟨(HIL.out g' hg').1, (HIL.out g' hg').2.1⟩
        refine ⟨k + 1, by omega, by go_num, by rw [HT.out]; go_num, ?_, ?_, ?_, Lib.hid ?_⟩
        · have := flatJ_put cs (markPartJ K ps k) (markPartJ K ps (k + 1)) k (by rw [markPartJ_length]; exact HCL.out) (by rw [markPartJ_length, markPartJ_length]) (by rw [markPartJ_length]; exact hlt) (fun i hi' hne => by
            rw [markPartJ_length] at hi'
            rw [markPartJ_getD _ _ _ _ hi', markPartJ_getD _ _ _ _ hi']
            simp only [show (i < k + 1) ↔ (i < k) from by omega])
          rw [markPartJ_getD _ _ _ _ hlt, if_pos (by omega), HM.out] at this
          rw [← this]
          exact HST.out
        · refine RowsOf.put (k := k) (rows := (markPartJ K ps k).map Prod.fst) (w := wr) HR.out (by simp [markPartJ_length]) (by simpa [markPartJ_length] using hlt) ?_ ?_ ?_
          · rw [wsJ_getD, markPartJ_getD _ _ _ _ hlt, if_pos (by omega), HM.out, HV.out]
            exact HI2.out.block fun g' e => Below.heap_setCell _ _ _ _ (HNE.out g' e)
          · intro i hi' hne
            rw [List.length_map, markPartJ_length] at hi'
            rw [wsJ_getD, wsJ_getD, markPartJ_getD _ _ _ _ hi', markPartJ_getD _ _ _ _ hi']
            simp only [show (i < k + 1) ↔ (i < k) from by omega]
          · rintro g' hg' ⟨i, hi', hne, he⟩
            have hri := HR.out.2.1 i hi'
            have hng : g' ≠ g := fun e2 => by subst e2; exact ownsRow_ne hri.1 HO.out (by decide) he rfl
            refine (Below.heap_setCell _ _ _ _ hng).trans (HG2.out.block g' hg' fun e2 => ?_)
            rw [List.length_map, markPartJ_length] at hi'
            rcases Nat.lt_or_gt_of_ne hne with hl | hl
            · exact HR.out.2.2 i k hl (by simpa [markPartJ_length] using hlt) g' he (by rw [HV.out]; exact e2.symm)
            · exact HR.out.2.2 k i hl (by simpa [markPartJ_length] using hi') g' (by rw [HV.out]; exact e2.symm) he
        · refine (HN.out.trans e1).trans ⟨rfl, rfl, rfl, by rw [size_set]; exact Nat.le_refl _, fun k' hk' ho' => Below.heap_setCell _ _ _ _ (fun e2 => ?_)⟩
          have e3 : k' = g := e2
          omega
        · have hng : gh ≠ g := fun e2 => HAV.out.1 g rfl e2.symm
          refine (Below.heap_setCell _ _ _ _ hng).trans ((HG2.out.block gh (by have := HN.out.size; omega) fun e2 => ?_).trans HGH.out)
          exact HAV.out.2 k hlt gh (by rw [HV.out]; exact e2.symm) rfl
      case measure => simp [intOf]; omega
    · obtain rfl : k = ps.length := by omega
      have HF := Lib.hid (show OwnK lo hi wr (.slice a ps.length c) (markJ K ps) cs from ⟨by rw [markJ_length]; exact ho, HBK.out, hrow⟩)
      have HN := Lib.hid hon
      clear ho hrow hon
      rw [totJ_all]
      go_wp2_with fail
      go_ret
      exact ⟨rfl, HF.out, HN.out, HGH.out⟩
end Go.Proofs.Ythohnnobahcdpaa.markk
namespace Go.Proofs.Ythohnnobahcdpaa.own
open Go.RowKit
theorem OwnK.reads {lo hi : Nat} {w : World} {a : Option Addr} {n c : Nat} {ps : List (List Int × Int)} {cs : List Value} (h : OwnK lo hi w (.slice a n c) ps cs) : ReadsJ w a ps := OwnJ.reads ⟨cs, h⟩
theorem OwnK.only {lo hi lo' hi' : Nat} {w w' : World} {v : Value} {ps : List (List Int × Int)} {cs : List Value} (h : OwnK lo hi w v ps cs) (ho : Only lo' hi' w w') (hd : hi ≤ lo' ∨ hi' ≤ lo) : OwnK lo hi w' v ps cs :=
  ⟨ownsRow_block h.1 (fun g hg => ho.block g (h.1.lt g hg).2 (by have h1 := h.1.lt g hg; have h2 := h.2.1 g hg; omega)), h.2.1, h.2.2.keep fun g h1 h2 h3 _ => ho.block g h3 (by omega)⟩
end Go.Proofs.Ythohnnobahcdpaa.own
