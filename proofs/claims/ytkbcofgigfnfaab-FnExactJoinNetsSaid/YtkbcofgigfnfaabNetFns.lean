/- The walks of the laws' own helpers on nets: szNet, toNet, eqNet, markNet, heldNet, and those on lists of lists of planes. -/
import Derived.Test.YtkbcofgigfnfaabNetL
import Derived.Deep.RegionHeld3
namespace Go.Proofs.Ytkbcofgigfnfaab.planesfns
open Go.RowKit own
set_option linter.unusedVariables false
set_option linter.unusedSimpArgs false
set_option maxHeartbeats 2000000 in
theorem mark_stir (lo hi : Nat) (a : Option Addr) (c : Nat) (ps : List (List Int × Int)) (cs : List Value) (K : Nat) (w : World) (h : OwnK lo hi w (.slice a ps.length c) ps cs) (h2 : K + totJ ps + ps.length ≤ 4611686018427387904) (hn : ps.length ≤ 9223372036854775807) :
    Calls Try.prog 168 #[.slice a ps.length c, .int .i64 K] w fun e w' => e = .returned (.int .i64 (K + totJ ps + ps.length : Nat)) ∧ OwnK lo hi w' (.slice a ps.length c) (markJ K ps) cs ∧ Stir (FootJ (.slice a ps.length c) cs ps.length) w w' := by
  obtain ⟨h1, hblk, h5⟩ := h
  have HBK := Lib.hid hblk
  have H1 := Lib.hid (show w.ownsRow lo 56 2 (.slice a ps.length c) ps.length (flatJ cs (markPartJ K ps 0)) by rw [markPartJ_zero]; exact h1)
  have H5 := Lib.hid (show RowsOf lo hi w cs ((markPartJ K ps 0).map Prod.fst) by rw [markPartJ_zero]; exact h5)
  have hcl : cs.length = ps.length := by have := h5.1; rw [List.length_map] at this; exact this
  clear hblk h1 h5
  have HCL := Lib.hid hcl
  clear hcl
  go_enter Try.func168, Try.ntmps168
  go_wp2_with fail
  go_loopw [1, 5] (fun q i wr => ∃ k : Nat, k ≤ ps.length ∧ i = .int .i64 k ∧ q = .int .i64 (K + totJ (ps.take k) + k : Nat) ∧ wr.ownsRow lo 56 2 (.slice a ps.length c) ps.length (flatJ cs (markPartJ K ps k)) ∧ RowsOf lo hi wr cs ((markPartJ K ps k).map Prod.fst) ∧ Stir (FootJ (.slice a ps.length c) cs ps.length) w wr) (fun _ i _ => ps.length - (intOf i).toNat)
  case atStart => exact ⟨0, Nat.zero_le _, rfl, by simp [totJ, grid.tot], H1.out, H5.out, Stir.refl _ _⟩
  case round =>
    obtain ⟨k, hk, rfl, rfl, ho, hrow, hon⟩ := hrel
    by_cases hlt : k < ps.length
    · have hoi := hrow.2.1 k (by rw [List.length_map, markPartJ_length]; exact hlt)
      rw [wsJ_getD, markPartJ_getD _ _ _ _ hlt, if_neg (by omega)] at hoi
      obtain ⟨p, q, hv, hrd, hpc, hml⟩ := hoi.slice
      obtain ⟨g, rfl⟩ : ∃ g, a = some ⟨g, 0, none⟩ := by
        rcases ho.2 with ⟨e, h0⟩ | ⟨g, cap, cur, e, hl, hh, hn', hm, hs, ht⟩
        · omega
        · cases e; exact ⟨g, rfl⟩
      have hat := flatJ_at cs (markPartJ K ps k) (by rw [markPartJ_length]; exact HCL.out) k (by rw [markPartJ_length]; exact hlt)
      rw [markPartJ_getD _ _ _ _ hlt, if_neg (by omega), hv] at hat
      have hc : wr.cell? ⟨g, k * 2, none⟩ = some (.slice p (ps.getD k ([], 0)).1.length q) := by rw [ho.cellAt (k * 2) (by omega)]; exact hat.1
      have hd : wr.cell? ⟨g, k * 2 + 1, none⟩ = some (.int .i64 (ps.getD k ([], 0)).2) := by rw [ho.cellAt (k * 2 + 1) (by omega)]; exact hat.2
      have hgw := ho.lt g rfl
      have hgh := HBK.out g rfl
      clear hat hrd
      have HT := Lib.hid (totJ_succ ps k hlt)
      have hle := totJ_take_le ps (k + 1)
      rw [HT.out] at hle
      have HO := Lib.hid ho
      have HR := Lib.hid hrow
      have HN := Lib.hid hon
      have HV := Lib.hid hv
      rw [hv] at hoi
      clear ho hrow hon hv
      have HI := Lib.hid hoi
      clear hoi
      have HM := Lib.hid (show mkJ K ps k = (intfns.marks (K + totJ (ps.take k) + k) (ps.getD k ([], 0)).1.length, ((K + totJ (ps.take k) + k + (ps.getD k ([], 0)).1.length : Nat) : Int)) from rfl)
      generalize hx : totJ (ps.take k) = x at *
      generalize hs : (ps.getD k ([], 0)).1 = s at *
      generalize hs2 : (ps.getD k ([], 0)).2 = z at *
      clear hs hx hs2
      go_wp2_with fail
      refine (intfns.mark_any lo hi _ _ s (K + x + k) wr HI.out (by omega)).mono ?_
      rintro e w2 ⟨rfl, hoi2, hg2⟩
      have hIlt : ∀ gg, (Value.slice p s.length q).ownBlock = some gg → lo ≤ gg ∧ gg < hi ∧ gg < wr.heap.size := fun gg e => HI.out.lt e
      have hne : ∀ gg, (Value.slice p s.length q).ownBlock = some gg → gg ≠ g := fun gg e1 e2 => by
        subst e2
        exact ownsRow_ne HI.out.1 HO.out (by decide) e1 rfl
      have hgr := hg2 _ rfl
      have HG2 := Lib.hid hgr
      have ho2 := ownsRow_block (w' := w2) HO.out (fun g' hg' => by
        obtain rfl : g = g' := by simpa [Value.ownBlock] using hg'
        exact hgr.block g hgw.2 fun e => hne g e.symm rfl)
      have hc2 : w2.cell? ⟨g, k * 2 + 1, none⟩ = some (.int .i64 z) := (World.cell?_of_block (hgr.block g hgw.2 fun e => hne g e.symm rfl)).trans hd
      have hf2 := ho2.frozenAt (k * 2 + 1)
      have hst := (ho2.stored (k * 2 + 1) (.int .i64 ((K + x + k + s.length : Nat) : Int))).1
      have HST := Lib.hid hst
      have HI2 := Lib.hid hoi2
      have HNE := Lib.hid hne
      have HIL := Lib.hid hIlt
      have s2 := hgr.size
      clear hoi2 hg2 hgr ho2 hst hne hIlt
      go_wp2_with fail
      go_roundw
      case rel =>
        have e1 : Stir (FootJ (.slice (some ⟨g, 0, none⟩) ps.length c) cs ps.length) wr w2 := Stir.of_grown HG2.out fun g' hg' => .inr ⟨k, hlt, by rw [HV.out]; exact hg'⟩
        refine ⟨k + 1, by omega, by go_num, by rw [HT.out]; go_num, ?_, ?_, ?_⟩
        · have := flatJ_put cs (markPartJ K ps k) (markPartJ K ps (k + 1)) k (by rw [markPartJ_length]; exact HCL.out) (by rw [markPartJ_length, markPartJ_length]) (by rw [markPartJ_length]; exact hlt) (fun i hi' hne => by
            rw [markPartJ_length] at hi'
            rw [markPartJ_getD _ _ _ _ hi', markPartJ_getD _ _ _ _ hi']
            simp only [show (i < k + 1) ↔ (i < k) from by omega])
          rw [markPartJ_getD _ _ _ _ hlt, if_pos (by omega), HM.out] at this
          rw [← this]
          exact HST.out
        · refine RowsOf.put (k := k) (rows := (markPartJ K ps k).map Prod.fst) (w := wr) HR.out (by simp [markPartJ_length]) (by simpa [markPartJ_length] using hlt) ?_ ?_ ?_
          · rw [wsJ_getD, markPartJ_getD _ _ _ _ hlt, if_pos (by omega), HM.out, HV.out]
            exact HI2.out.block fun g' e => Below.heap_setCell _ _ _ _ (HNE.out g' e)
          · intro i hi' hne
            rw [List.length_map, markPartJ_length] at hi'
            rw [wsJ_getD, wsJ_getD, markPartJ_getD _ _ _ _ hi', markPartJ_getD _ _ _ _ hi']
            simp only [show (i < k + 1) ↔ (i < k) from by omega]
          · rintro g' hg' ⟨i, hi', hne, he⟩
            have hri := HR.out.2.1 i hi'
            have hng : g' ≠ g := fun e2 => by subst e2; exact ownsRow_ne hri.1 HO.out (by decide) he rfl
            refine (Below.heap_setCell _ _ _ _ hng).trans (HG2.out.block g' hg' fun e2 => ?_)
            rw [List.length_map, markPartJ_length] at hi'
            rcases Nat.lt_or_gt_of_ne hne with hl | hl
            · exact HR.out.2.2 i k hl (by simpa [markPartJ_length] using hlt) g' he (by rw [HV.out]; exact e2.symm)
            · exact HR.out.2.2 k i hl (by simpa [markPartJ_length] using hi') g' (by rw [HV.out]; exact e2.symm) he
        · refine (HN.out.trans e1).trans ⟨rfl, rfl, rfl, by rw [size_set]; exact Nat.le_refl _, fun k' hk' ho' => Below.heap_setCell _ _ _ _ (fun e2 => ?_)⟩
          have e3 : k' = g := e2
          exact ho' (.inl (by rw [e3]; rfl))
      case measure => simp [intOf]; omega
    · obtain rfl : k = ps.length := by omega
      have HF := Lib.hid (show OwnK lo hi wr (.slice a ps.length c) (markJ K ps) cs from ⟨by rw [markJ_length]; exact ho, HBK.out, hrow⟩)
      have HN := Lib.hid hon
      clear ho hrow hon
      rw [totJ_all]
      go_wp2_with fail
      go_ret
      exact ⟨rfl, HF.out, HN.out⟩
end Go.Proofs.Ytkbcofgigfnfaab.planesfns
namespace Go.Proofs.Ytkbcofgigfnfaab.laysfns
open Go.RowKit own
set_option linter.unusedVariables false
set_option linter.unusedSimpArgs false
set_option maxHeartbeats 1000000 in
theorem sz_yes (a : Option Addr) (ls : List (List (List Int × Int))) (c : Nat) (left : Int) (w : World) (hr : ReadsL w a ls)
    (h0 : (ls.length : Int) + (totL ls : Int) ≤ left) (h1 : left ≤ 1048576) :
    Calls Try.prog 85 #[.slice a ls.length c, .int .i64 left] w fun e w' => e = .returned (.int .i64 (left - ls.length - totL ls)) ∧ Below w.heap.size w w' := by
  go_enter Try.func85, Try.ntmps85
  go_wp2
  go_loopw [1, 5] (fun l i wr => ∃ k : Nat, k ≤ ls.length ∧ i = .int .i64 k ∧ l = .int .i64 (left - ls.length - totL (ls.take k)) ∧ Below w.heap.size w wr) (fun _ i _ => ls.length - (intOf i).toNat)
  case atStart => exact ⟨0, Nat.zero_le _, rfl, by simp [totL], Below.refl _ _⟩
  case round =>
    obtain ⟨k, hk, rfl, rfl, hbel⟩ := hrel
    by_cases hlt : k < ls.length
    · obtain ⟨b, off, p, c', rfl, hb, hc, _, hrow⟩ := (hr.below hbel).at hlt
      have HS := Lib.hid (totL_succ ls k hlt)
      have hle := totL_take_le ls (k + 1)
      rw [HS.out] at hle
      have HB := Lib.hid hbel
      have hsz := hbel.size
      clear hbel
      generalize hx : totL (ls.take k) = x at *
      generalize hs : ls.getD k [] = s at *
      clear hx hs
      go_wp2_with fail
      refine (planesfns.sz_yes _ s _ _ _ hrow (by omega) (by omega)).mono ?_
      rintro e w' ⟨rfl, hb2⟩
      have HB2 := Lib.hid (HB.out.trans (hb2.mono hsz))
      clear hb2 hrow
      go_wp2_with fail
      go_roundw
      case rel => exact ⟨k + 1, by omega, by go_num, by rw [HS.out]; go_num, HB2.out⟩
      case measure => simp [intOf]; omega
    · have : k = ls.length := by omega
      subst this
      rw [totL_all]
      have HB := Lib.hid hbel
      clear hbel
      go_wp2
      go_ret
      exact ⟨rfl, HB.out⟩

set_option maxHeartbeats 1000000 in
theorem sz_no (a : Option Addr) (ls : List (List (List Int × Int))) (c : Nat) (left : Int) (w : World) (hr : ReadsL w a ls) (hl : ls.length ≤ 9223372036854775807) (hs : ∀ x ∈ ls, x.length ≤ 9223372036854775807 ∧ ∀ y ∈ x, y.1.length ≤ 9223372036854775807)
    (h0 : left < (ls.length : Int) + (totL ls : Int)) (h1 : left ≤ 1048576) (h2 : 0 ≤ left) :
    Calls Try.prog 85 #[.slice a ls.length c, .int .i64 left] w fun e w' => e = .returned (.int .i64 (-1)) ∧ Below w.heap.size w w' := by
  by_cases hn : left < (ls.length : Int)
  · go_enter Try.func85, Try.ntmps85
    go_wp2_with fail
    go_ret
    exact ⟨rfl, Below.refl _ _⟩
  go_enter Try.func85, Try.ntmps85
  go_wp2
  go_loopw [1, 5] (fun l i wr => ∃ k : Nat, k ≤ ls.length ∧ i = .int .i64 k ∧ l = .int .i64 (left - ls.length - totL (ls.take k)) ∧ (totL (ls.take k) : Int) ≤ left - ls.length ∧ Below w.heap.size w wr) (fun _ i _ => ls.length - (intOf i).toNat)
  case atStart => exact ⟨0, Nat.zero_le _, rfl, by simp [totL], by simp [totL]; omega, Below.refl _ _⟩
  case round =>
    obtain ⟨k, hk, rfl, rfl, hx0, hbel⟩ := hrel
    by_cases hlt : k < ls.length
    · obtain ⟨b, off, p, c', rfl, hb, hc, _, hrow⟩ := (hr.below hbel).at hlt
      have HS := Lib.hid (totL_succ ls k hlt)
      obtain ⟨hsz, hsx⟩ := hs (ls.getD k []) (by rw [List.getD_eq_getElem?_getD, List.getElem?_eq_getElem hlt]; simp)
      have HSX := Lib.hid hsx
      have HB := Lib.hid hbel
      have hwz := hbel.size
      clear hbel hsx
      generalize hx : totL (ls.take k) = x at *
      generalize hs' : ls.getD k [] = s at *
      clear hx hs' hs
      by_cases hlong : left - ls.length - (x : Int) - ((s.length : Int) + (planesfns.totJ s : Int)) < 0
      · go_wp2_with fail
        refine (planesfns.sz_no _ s _ _ _ hrow (by omega) HSX.out (by omega) (by omega) (by omega)).mono ?_
        rintro e w' ⟨rfl, hb2⟩
        have HB2 := Lib.hid (HB.out.trans (hb2.mono hwz))
        clear hb2 hrow
        go_wp2_with fail
        go_ret
        exact ⟨rfl, HB2.out⟩
      · go_wp2_with fail
        refine (planesfns.sz_yes _ s _ _ _ hrow (by omega) (by omega)).mono ?_
        rintro e w' ⟨rfl, hb2⟩
        have HB2 := Lib.hid (HB.out.trans (hb2.mono hwz))
        clear hb2 hrow
        go_wp2_with fail
        go_roundw
        case rel => exact ⟨k + 1, by omega, by go_num, by rw [HS.out]; go_num, by rw [HS.out]; omega, HB2.out⟩
        case measure => simp [intOf]; omega
    · have : k = ls.length := by omega
      subst this
      rw [totL_all] at hx0
      omega

theorem below_of3 {b o b' o' : Nat} {x x' : Value} {w wr wa : World} (hB : Below w.heap.size w wr) (h : wa.cell? ⟨b, o, none⟩ = some x ∧ wa.cell? ⟨b', o', none⟩ = some x' ∧ Below wr.heap.size wr wa) : Below w.heap.size w wa := hB.trans (h.2.2.mono hB.size)
/-- What a copy is. -/
def MadeL (ls : List (List (List Int × Int))) (w : World) (e : Ending) (w' : World) : Prop :=
  ∃ v, e = .returned v ∧ OwnL w.heap.size w'.heap.size w' v ls ∧ Below w.heap.size w w'
theorem infoPlaneS : (Try.prog.info? 110).map (fun i => (i.zero, i.size, i.bytes)) = some (some (.slice none 0 0), 1, 24) := by kernel_rfl

set_option maxRecDepth 100000 in
set_option maxHeartbeats 2000000 in
theorem to_any (a : Option Addr) (ls : List (List (List Int × Int))) (c : Nat) (w : World) (hr : ReadsL w a ls) (hn : (ls.length : Int) + (totL ls : Int) ≤ 1048576) :
    Calls Try.prog 88 #[.slice a ls.length c] w (MadeL ls w) := by
  obtain ⟨i0, hi, hz0, hz1, hz2⟩ := info_parts infoPlaneS
  go_enter Try.func88, Try.ntmps88
  go_wp2_with (refine wpList_make_full _ rfl _ _ 42 rfl w.heap.size 110 i0 (.slice none 0 0) 1 Try.underlying42 hi hz0 hz1 .i64 .i64 _ _ ls.length rfl rfl rfl rfl (by rw [hz2]; omega) (by unfold maxLen; omega) (Nat.le_refl _) ?_; intro w1 hown1 hgrow1; refine Hid.out ?_)
  refine Lib.hid ?_
  have hb1 : Below w.heap.size w w1 := (Below.refl _ _).grown hgrow1 (Nat.le_refl _) (by simp)
  rw [show (Value.slice none 0 0).cells = #[Value.slice none 0 0] from rfl, Nat.mul_one, toList_madeCells_one] at hown1
  have hgg := OwnPartL.start hown1
  go_wp2
  go_loopw [4] (fun i wr => ∃ k : Nat, k ≤ ls.length ∧ i = .int .i64 k ∧ OwnPartL w.heap.size w.heap.size wr ls k ∧ Below w.heap.size w wr) (fun i _ => ls.length - (intOf i).toNat)
  case atStart => exact ⟨0, Nat.zero_le _, rfl, hgg, hb1⟩
  case round =>
    obtain ⟨k, hk, rfl, hown, hbel⟩ := hrel
    clear hown1 hgrow1 hb1 hgg
    by_cases hlt : k < ls.length
    · obtain ⟨b, off, p, c', rfl, hb, hc, _, hrow⟩ := (hr.below hbel).at hlt
      have hle := getD_le_totL ls k
      have HO := Lib.hid hown
      have HB := Lib.hid hbel
      have hsz := hbel.size
      clear hown hbel
      generalize hs : ls.getD k [] = s at *
      have HS := Lib.hid hs
      clear hs
      go_wp2_with fail
      refine (planesfns.to_any _ s _ _ hrow (by omega)).mono ?_
      rintro e w2 ⟨v, rfl, hov, hb2⟩
      obtain ⟨p2, q2, hv2, _, _, _⟩ := hov.slice
      subst hv2
      obtain ⟨hcell, hfro, hst⟩ := HO.out.store hlt hb2 (by rw [HS.out]; exact hov)
      have HST := Lib.hid hst
      have HB2 := Lib.hid (HB.out.trans (hb2.mono hsz))
      clear hst hb2 hov hrow
      go_wp2_with fail
      go_roundw
      case rel => exact ⟨k + 1, by omega, by go_num, HST.out, HB2.out.setCell (Nat.le_refl _) _⟩
      case measure => simp [intOf]; omega
    · have : k = ls.length := by omega
      subst this
      have HO := Lib.hid hown.done
      have HB := Lib.hid hbel
      clear hown hbel
      go_wp2
      go_ret
      exact ⟨_, rfl, HO.out, HB.out⟩

set_option maxHeartbeats 1000000 in
theorem eq_same (a a' : Option Addr) (ls : List (List (List Int × Int))) (c c' : Nat) (w : World) (hr : ReadsL w a ls) (hr' : ReadsL w a' ls) (hn : ls.length ≤ 9223372036854775807) (hm : ∀ x ∈ ls, x.length ≤ 9223372036854775807 ∧ ∀ y ∈ x, y.1.length ≤ 9223372036854775807) :
    Calls Try.prog 93 #[.slice a ls.length c, .slice a' ls.length c'] w fun e w' => e = .returned (.bool true) ∧ Below w.heap.size w w' := by
  go_enter Try.func93, Try.ntmps93
  go_wp2
  go_loopw [5] (fun i wr => ∃ k : Nat, k ≤ ls.length ∧ i = .int .i64 k ∧ Below w.heap.size w wr) (fun i _ => ls.length - (intOf i).toNat)
  case atStart => exact ⟨0, Nat.zero_le _, rfl, Below.refl _ _⟩
  case round =>
    obtain ⟨k, hk, rfl, hbel⟩ := hrel
    by_cases hlt : k < ls.length
    · obtain ⟨b, off, p, q, rfl, hb, hc, _, hrow⟩ := (hr.below hbel).at hlt
      obtain ⟨b', off', p', q', rfl, hb', hc', _, hrow'⟩ := (hr'.below hbel).at hlt
      obtain ⟨hsz, hsx⟩ := hm (ls.getD k []) (by rw [List.getD_eq_getElem?_getD, List.getElem?_eq_getElem hlt]; simp)
      have HSX := Lib.hid hsx
      have HB := Lib.hid hbel
      have hws := hbel.size
      clear hbel hsx hm
      generalize hs : ls.getD k [] = s at *
      clear hs
      have HR := Lib.hid hrow
      have HR' := Lib.hid hrow'
      clear hrow hrow'
      have HT := Lib.hid (show ∀ wa : World, (wa.cell? ⟨b, off + k, none⟩ = some (.slice p s.length q) ∧ wa.cell? ⟨b', off' + k, none⟩ = some (.slice p' s.length q') ∧ Below wr.heap.size wr wa) → Calls Try.prog 167 #[.slice p s.length q, .slice p' s.length q'] wa fun e w' => e = .returned (.bool true) ∧ (w'.cell? ⟨b, off + k, none⟩ = some (.slice p s.length q) ∧ w'.cell? ⟨b', off' + k, none⟩ = some (.slice p' s.length q') ∧ Below wr.heap.size wr w') from fun wa hS =>
        (planesfns.eq_same _ _ s _ _ wa (HR.out.below hS.2.2) (HR'.out.below hS.2.2) hsz HSX.out).mono fun _ w' ⟨he, hbx⟩ => ⟨he, (hbx.cell (p := ⟨b, off + k, none⟩) (Nat.lt_of_lt_of_le hb hS.2.2.size)).trans hS.1, (hbx.cell (p := ⟨b', off' + k, none⟩) (Nat.lt_of_lt_of_le hb' hS.2.2.size)).trans hS.2.1, hS.2.2.trans (hbx.mono hS.2.2.size)⟩)
      go_wp2_with fail
      go_region_held3 (fun w' => w'.cell? ⟨b, off + k, none⟩ = some (.slice p s.length q) ∧ w'.cell? ⟨b', off' + k, none⟩ = some (.slice p' s.length q') ∧ Below wr.heap.size wr w')
        (first | assumption | exact ⟨hc, hc', Below.refl _ _⟩ | exact ⟨hc, hc', (Below.refl _ _).drew⟩)
        (first | (go_at_call 167; refine Calls.mono (HT.out _ ?_) ?_; assumption; rintro e w' ⟨rfl, hbx⟩))
      go_wp2_with fail
      go_roundw
      case rel =>
        refine ⟨k + 1, by omega, by go_num, ?_⟩
        refine below_of3 (b := b) (o := off + k) (b' := b') (o' := off' + k) (x := .slice p s.length q) (x' := .slice p' s.length q') HB.out ?_
        assumption
      case measure => simp [intOf]; omega
    · have HB := Lib.hid hbel
      clear hbel
      go_wp2
      go_ret
      exact ⟨rfl, HB.out⟩

set_option maxHeartbeats 2000000 in
theorem mark_any (lo hi : Nat) (a : Option Addr) (c : Nat) (ls : List (List (List Int × Int))) (vs : List Value) (css : List (List Value)) (K : Nat) (w : World) (h : OwnLK lo hi w (.slice a ls.length c) ls vs css) (h2 : K + totL ls ≤ 4611686018427387904) (hn : ls.length ≤ 1048576) :
    Calls Try.prog 94 #[.slice a ls.length c, .int .i64 K] w fun e w' => e = .returned (.int .i64 (K + totL ls : Nat)) ∧ OwnLK lo hi w' (.slice a ls.length c) (markL K ls) vs css ∧ Stir (FootL vs css ls) w w' := by
  obtain ⟨h1, hblk, h5⟩ := h
  have HB := Lib.hid hblk
  have H1 := Lib.hid h1
  have H5 := Lib.hid (show LaysOf lo hi w vs css (markPartL K ls 0) by rw [markPartL_zero]; exact h5)
  clear hblk h1 h5
  go_enter Try.func94, Try.ntmps94
  go_wp2_with fail
  go_loopw [1, 5] (fun q i wr => ∃ k : Nat, k ≤ ls.length ∧ i = .int .i64 k ∧ q = .int .i64 (K + totL (ls.take k) : Nat) ∧ wr.ownsRow lo 110 1 (.slice a ls.length c) ls.length vs ∧ LaysOf lo hi wr vs css (markPartL K ls k) ∧ Stir (FootL vs css ls) w wr) (fun _ i _ => ls.length - (intOf i).toNat)
  case atStart => exact ⟨0, Nat.zero_le _, rfl, by simp [totL], H1.out, H5.out, Stir.refl _ _⟩
  case round =>
    obtain ⟨k, hk, rfl, rfl, ho, hrow, hon⟩ := hrel
    by_cases hlt : k < ls.length
    · have hoi := hrow.2.2.1 k (by rw [markPartL_length]; exact hlt)
      rw [markPartL_getD _ _ _ _ hlt, if_neg (by omega)] at hoi
      obtain ⟨p, q, hv, hrd, hpc, hml⟩ := (show OwnJ lo hi wr (vs.getD k undef) (ls.getD k []) from ⟨_, hoi⟩).slice
      obtain ⟨b, off, hab, hb, hc⟩ : ∃ b off, a = some ⟨b, off, none⟩ ∧ b < wr.heap.size ∧ wr.cell? ⟨b, off + k, none⟩ = some (vs.getD k undef) := by
        rcases ho.2 with ⟨e, h0⟩ | ⟨g, cap, cur, e, hl, hh, hn', hm, hs, ht⟩
        · omega
        · cases e
          refine ⟨g, 0, rfl, (Array.getElem?_eq_some_iff.1 hh).1, ?_⟩
          have hx := ho.cells (g := g) rfl k (vs.getD k undef) (by rw [List.getD_eq_getElem?_getD, List.getElem?_eq_getElem (by have := hrow.1; rw [markPartL_length] at this; omega)]; simp)
          rw [Go.WideShapes.add_plain] at hx
          simpa using hx
      subst hab
      have HT := Lib.hid (totL_succ ls k hlt)
      have hle := totL_take_le ls (k + 1)
      rw [HT.out] at hle
      have HO := Lib.hid ho
      have HR := Lib.hid hrow
      have HN := Lib.hid hon
      have HV := Lib.hid hv
      rw [hv] at hc hoi
      clear ho hrow hon hv hrd
      have HI := Lib.hid hoi
      clear hoi
      have HM := Lib.hid (show mkL K ls k = planesfns.markJ (K + totL (ls.take k)) (ls.getD k []) from rfl)
      have HG := Lib.hid (show (ls.getD k []) = (ls.getD k []) from rfl)
      generalize hx : totL (ls.take k) = x at *
      generalize hs : ls.getD k [] = s at HI HM HT hle hc hpc hml
      have HS := Lib.hid hs
      clear hs hx HG
      go_wp2_with fail
      refine (planesfns.mark_stir lo hi _ _ s _ (K + x) wr HI.out (by omega) (by omega)).mono ?_
      rintro e w2 ⟨rfl, hoi2, hg2⟩
      have HI2 := Lib.hid hoi2
      have HG2 := Lib.hid hg2
      clear hoi2 hg2
      go_wp2_with fail
      go_roundw
      case rel =>
        have hI := HI.out
        have e1 : Stir (FootL vs css ls) wr w2 := HG2.out.mono fun g hg => ⟨k, hlt, by rw [HV.out, HS.out]; exact hg⟩
        refine ⟨k + 1, by omega, by go_num, by rw [HT.out]; go_num, ?_, ?_, HN.out.trans e1⟩
        · exact ownsRow_block HO.out fun g hg => HG2.out.block g (HO.out.lt g hg).2 (hI.apart HO.out hg)
        · refine HR.out.mark hlt (by rw [HV.out, HM.out, HS.out]; exact HI2.out) (by rw [HV.out, HS.out]; exact HG2.out)
      case measure => simp [intOf]; omega
    · obtain rfl : k = ls.length := by omega
      have HF := Lib.hid (show OwnLK lo hi wr (.slice a ls.length c) (markL K ls) vs css from ⟨by rw [markL_length]; exact ho, HB.out, hrow⟩)
      have HN := Lib.hid hon
      clear ho hrow hon
      rw [totL_all]
      go_wp2_with fail
      go_ret
      exact ⟨rfl, HF.out, HN.out⟩
set_option maxHeartbeats 1000000 in
theorem held_any (a : Option Addr) (c : Nat) (ls : List (List (List Int × Int))) (K : Nat) (w : World) (hr : ReadsL w a (markL K ls)) (h2 : K + totL ls ≤ 4611686018427387904) (hn : ls.length ≤ 1048576) :
    Calls Try.prog 95 #[.slice a ls.length c, .int .i64 K] w fun e w' => e = .returned (.int .i64 (K + totL ls : Nat)) ∧ Below w.heap.size w w' := by
  go_enter Try.func95, Try.ntmps95
  go_wp2_with fail
  go_loopw [1, 5] (fun q i wr => ∃ k : Nat, k ≤ ls.length ∧ i = .int .i64 k ∧ q = .int .i64 (K + totL (ls.take k) : Nat) ∧ Below w.heap.size w wr) (fun _ i _ => ls.length - (intOf i).toNat)
  case atStart => exact ⟨0, Nat.zero_le _, rfl, by simp [totL], Below.refl _ _⟩
  case round =>
    obtain ⟨k, hk, rfl, rfl, hb⟩ := hrel
    have HB := Lib.hid hb
    have hws := hb.size
    by_cases hlt : k < ls.length
    · obtain ⟨g, off, p, q, rfl, hg, hcell, hq, hrow⟩ := (hr.below hb).at (k := k) (by rw [markL_length]; exact hlt)
      rw [markL_getD K ls k hlt] at hcell hrow
      rw [mkL_length] at hcell
      unfold mkL at hrow
      clear hb hq
      have HT := Lib.hid (totL_succ ls k hlt)
      have hle := totL_take_le ls (k + 1)
      rw [HT.out] at hle
      generalize hx : totL (ls.take k) = x at *
      generalize hs : ls.getD k [] = s at *
      clear hs hx
      have HR := Lib.hid hrow
      clear hrow
      go_wp2_with fail
      refine (planesfns.held_any _ _ s (K + x) wr HR.out (by omega) (by omega)).mono ?_
      rintro e w2 ⟨rfl, hb2⟩
      have HB2 := Lib.hid (HB.out.trans (hb2.mono hws))
      clear hb2
      go_wp2_with fail
      go_roundw
      case rel => exact ⟨k + 1, by omega, by go_num, by rw [HT.out]; go_num, HB2.out⟩
      case measure => simp [intOf]; omega
    · obtain rfl : k = ls.length := by omega
      clear hb
      rw [totL_all]
      go_wp2_with fail
      go_ret
      exact ⟨rfl, HB.out⟩
end Go.Proofs.Ytkbcofgigfnfaab.laysfns
namespace Go.Proofs.Ytkbcofgigfnfaab.netfns
open Go.RowKit own
set_option linter.unusedVariables false
set_option linter.unusedSimpArgs false
set_option maxHeartbeats 1000000 in
theorem sz_yes (a : Option Addr) (ls : List (List (List Int × Int))) (c : Nat) (b left : Int) (w : World) (hr : ReadsL w a ls) (h0 : (ls.length : Int) + (totL ls : Int) ≤ left) (h1 : left ≤ 1048576) :
    Calls Try.prog 22 #[.agg #[.int .i64 b, .slice a ls.length c], .int .i64 left] w fun e w' => e = .returned (.int .i64 (left - ls.length - totL ls)) ∧ Below w.heap.size w w' := by
  have hB := ((Below.refl w.heap.size w).alloc (Nat.le_refl _) (.cells #[.int .i64 b, .slice a ls.length c] 40))
  have hr1 := hr.below hB
  have HB := Lib.hid hB
  clear hB
  go_enter Try.func22, Try.ntmps22
  go_wp2_with fail
  refine (laysfns.sz_yes _ ls _ _ _ hr1 (by omega) (by omega)).mono ?_
  rintro e w' ⟨rfl, hb⟩
  have HB1 := Lib.hid (HB.out.trans (hb.mono (by simp)))
  clear hb hr1
  go_wp2_with fail
  go_ret
  exact ⟨rfl, HB1.out⟩

set_option maxHeartbeats 1000000 in
theorem sz_no (a : Option Addr) (ls : List (List (List Int × Int))) (c : Nat) (b left : Int) (w : World) (hr : ReadsL w a ls) (hl : ls.length ≤ 9223372036854775807) (hs : ∀ x ∈ ls, x.length ≤ 9223372036854775807 ∧ ∀ y ∈ x, y.1.length ≤ 9223372036854775807)
    (h0 : left < (ls.length : Int) + (totL ls : Int)) (h1 : left ≤ 1048576) (h2 : 0 ≤ left) :
    Calls Try.prog 22 #[.agg #[.int .i64 b, .slice a ls.length c], .int .i64 left] w fun e w' => e = .returned (.int .i64 (-1)) ∧ Below w.heap.size w w' := by
  have hB := ((Below.refl w.heap.size w).alloc (Nat.le_refl _) (.cells #[.int .i64 b, .slice a ls.length c] 40))
  have hr1 := hr.below hB
  have HB := Lib.hid hB
  have HS := Lib.hid hs
  clear hB hs
  go_enter Try.func22, Try.ntmps22
  go_wp2_with fail
  refine (laysfns.sz_no _ ls _ _ _ hr1 hl HS.out h0 h1 h2).mono ?_
  rintro e w' ⟨rfl, hb⟩
  have HB1 := Lib.hid (HB.out.trans (hb.mono (by simp)))
  clear hb hr1
  go_wp2_with fail
  go_ret
  exact ⟨rfl, HB1.out⟩

/-- What a copy is. -/
def MadeT (ls : List (List (List Int × Int))) (b : Int) (w : World) (e : Ending) (w' : World) : Prop :=
  ∃ v, e = .returned (.agg #[.int .i64 b, v]) ∧ OwnL w.heap.size w'.heap.size w' v ls ∧ Below w.heap.size w w'

set_option maxHeartbeats 1000000 in
theorem to_any (a : Option Addr) (ls : List (List (List Int × Int))) (c : Nat) (b : Int) (w : World) (hr : ReadsL w a ls) (hn : (ls.length : Int) + (totL ls : Int) ≤ 1048576) :
    Calls Try.prog 24 #[.agg #[.int .i64 b, .slice a ls.length c]] w (MadeT ls b w) := by
  have hB : Below w.heap.size w (((w.alloc (.cells #[.int .i64 b, .slice a ls.length c] 40)).alloc (.cells #[.int .i64 0, .slice none 0 0] 44)).alloc (.cells #[.int .i64 b, .slice none 0 0] 44)) :=
    (((Below.refl _ _).alloc (Nat.le_refl _) _).alloc (by simp) _).alloc (by simp; omega) _
  have hr1 := hr.below hB
  have HB := Lib.hid hB
  clear hB hr
  go_enter Try.func24, Try.ntmps24
  go_wp2_with fail
  refine (laysfns.to_any a ls c _ hr1 hn).mono ?_
  rintro e w1 ⟨v, rfl, ho, hb⟩
  obtain ⟨p, q, rfl, _, _, _⟩ := ho.slice
  obtain ⟨hc, hf⟩ := bcell hb
  have hs : w.heap.size + 1 + 1 + 1 ≤ w1.heap.size := by have := hb.size; simp at this; omega
  have HB1 := Lib.hid (HB.out.trans (hb.mono (by simp; omega)))
  have HO := Lib.hid (ho.mono (lo' := w.heap.size + 3) (by simp) (Nat.le_refl _))
  clear hb ho hr1
  go_wp2_with fail
  refine bodyPost_ret (v := .agg #[.int .i64 b, .slice p ls.length q]) (by simp [results, Try.results24, go_sem, hc]) rfl ⟨_, rfl, ?_, ?_⟩
  · simp only [size_set]
    exact (((HO.out.set (by simp) _).set (by simp) _).set (by simp) _).mono (by omega) (Nat.le_refl _)
  · exact ((HB1.out.setCell (by simp; omega) _).setCell (by simp) _).setCell (by simp) _
set_option maxHeartbeats 1000000 in
theorem eq_same (a a' : Option Addr) (ls : List (List (List Int × Int))) (c c' : Nat) (b : Int) (w : World) (hr : ReadsL w a ls) (hr' : ReadsL w a' ls) (hn : ls.length ≤ 9223372036854775807) (hm : ∀ x ∈ ls, x.length ≤ 9223372036854775807 ∧ ∀ y ∈ x, y.1.length ≤ 9223372036854775807) :
    Calls Try.prog 26 #[.agg #[.int .i64 b, .slice a ls.length c], .agg #[.int .i64 b, .slice a' ls.length c']] w fun e w' => e = .returned (.bool true) ∧ Below w.heap.size w w' := by
  have hB := (((Below.refl w.heap.size w).alloc (Nat.le_refl _) (.cells #[.int .i64 b, .slice a ls.length c] 44)).alloc (by simp) (.cells #[.int .i64 b, .slice a' ls.length c'] 44))
  have hr1 := hr.below hB
  have hr1' := hr'.below hB
  have HB := Lib.hid hB
  have HM := Lib.hid hm
  clear hB hr hr' hm
  go_enter Try.func26, Try.ntmps26
  go_wp2_with fail
  refine (laysfns.eq_same _ _ ls _ _ _ hr1 hr1' hn HM.out).mono ?_
  rintro e w1 ⟨rfl, hb⟩
  have HB1 := Lib.hid (HB.out.trans (hb.mono (by simp; omega)))
  clear hb hr1 hr1'
  go_wp2_with fail
  go_ret
  exact ⟨rfl, HB1.out⟩
set_option maxHeartbeats 1000000 in
theorem mark_any (lo hi : Nat) (a : Option Addr) (c : Nat) (ls : List (List (List Int × Int))) (b : Int) (K : Nat) (w : World) (h : OwnL lo hi w (.slice a ls.length c) ls) (h2 : K + totL ls ≤ 4611686018427387904) (hn : ls.length ≤ 1048576) :
    Calls Try.prog 27 #[.agg #[.int .i64 b, .slice a ls.length c], .int .i64 K] w fun e w' => e = .returned (.int .i64 (K + totL ls : Nat)) ∧ OwnL lo hi w' (.slice a ls.length c) (markL K ls) ∧ Only lo hi w w' := by
  have hB := ((Below.refl w.heap.size w).alloc (Nat.le_refl _) (.cells #[.int .i64 b, .slice a ls.length c] 44))
  obtain ⟨vs, css, h⟩ := h
  have hlt := fun g (hg : FootL vs css ls g) => h.2.2.foot hg
  have HO := Lib.hid (show OwnLK lo hi _ (.slice a ls.length c) ls vs css from ⟨ownsRow_block h.1 (fun g hg => hB.block g (h.1.lt g hg).2), h.2.1, h.2.2.below hB⟩)
  have HB := Lib.hid hB
  have HL := Lib.hid hlt
  clear h hB hlt
  go_enter Try.func27, Try.ntmps27
  go_wp2_with fail
  refine (laysfns.mark_any lo hi _ _ ls vs css K _ HO.out h2 hn).mono ?_
  rintro e w1 ⟨rfl, ho1, hg1⟩
  have HO1 := Lib.hid (show OwnL lo hi w1 (.slice a ls.length c) (markL K ls) from ⟨vs, css, ho1⟩)
  have HG := Lib.hid ((Only.of_below (lo := lo) (hi := hi) HB.out).trans (hg1.only fun g hg => ⟨(HL.out g hg).1, (HL.out g hg).2.1⟩))
  clear ho1 hg1
  go_wp2_with fail
  go_ret
  exact ⟨rfl, HO1.out, HG.out⟩
set_option maxHeartbeats 1000000 in
theorem held_any (a : Option Addr) (c : Nat) (ls : List (List (List Int × Int))) (b : Int) (K : Nat) (w : World) (hr : ReadsL w a (markL K ls)) (h2 : K + totL ls ≤ 4611686018427387904) (hn : ls.length ≤ 1048576) :
    Calls Try.prog 28 #[.agg #[.int .i64 b, .slice a ls.length c], .int .i64 K] w fun e w' => e = .returned (.int .i64 (K + totL ls : Nat)) ∧ Below w.heap.size w w' := by
  have hB := ((Below.refl w.heap.size w).alloc (Nat.le_refl _) (.cells #[.int .i64 b, .slice a ls.length c] 44))
  have hr1 := hr.below hB
  have HB := Lib.hid hB
  clear hB
  go_enter Try.func28, Try.ntmps28
  go_wp2_with fail
  refine (laysfns.held_any _ _ ls K _ hr1 h2 hn).mono ?_
  rintro e w1 ⟨rfl, hb⟩
  have HB1 := Lib.hid (HB.out.trans (hb.mono (by simp)))
  clear hb
  go_wp2_with fail
  go_ret
  exact ⟨rfl, HB1.out⟩
end Go.Proofs.Ytkbcofgigfnfaab.netfns
