/- The program's neighbors among some places, and their label. -/
import Derived.Test.YtkbcofgigfnfaaaChain
import Derived.Test.YtkbcofgigfnfaaaNearQ
import Derived.Test.YtkbcofgigfnfaaaMk
import Derived.BigQuiet
namespace Go.Proofs.Ytkbcofgigfnfaaa.neari
open Go.RowKit own pp nums nearp chain squares dots mk nearq
set_option linter.unusedVariables false
set_option linter.unusedSimpArgs false

theorem insC_map (D : Int → Int) (p : Int) (l : List Int) : insC p (D p) (l.map fun q => (q, D q)) = (ins D p l).map fun q => (q, D q) := by
  induction l with
  | nil => rfl
  | cons q l ih =>
    by_cases h : D p < D q
    · have e1 : insC p (D p) ((q :: l).map fun q => (q, D q)) = (p, D p) :: (q, D q) :: l.map fun q => (q, D q) := if_pos h
      have e2 : ins D p (q :: l) = p :: q :: l := if_pos h
      rw [e1, e2]
      rfl
    · have e1 : insC p (D p) ((q :: l).map fun q => (q, D q)) = (q, D q) :: insC p (D p) (l.map fun q => (q, D q)) := if_neg h
      have e2 : ins D p (q :: l) = q :: ins D p l := if_neg h
      rw [e1, e2, ih]
      rfl
/-- Places with their distances. -/
def chL (D : Int → Int) (l : List Int) : List (Int × Int) := l.map fun q => (q, D q)
theorem chL_length (D : Int → Int) (l : List Int) : (chL D l).length = l.length := by simp [chL]
theorem chL_succ (D : Int → Int) (ps : List Int) (k : Nat) : insC (ps.getD k 0) (D (ps.getD k 0)) (chL D (nearTo D ps k)) = chL D (nearTo D ps (k + 1)) := insC_map D _ _
theorem chL_getD (D : Int → Int) (l : List Int) (k : Nat) (h : k < l.length) : ((chL D l).getD k (0, 0)).1 = l.getD k 0 := by
  simp [chL, List.getD_eq_getElem?_getD, h]
theorem Nod.step {w : World} {bs : List Nat} {l : List (Int × Int)} {k : Nat} {p : Option Addr} (h : Nod w (bs.drop k) (l.drop k) p) (hk : k < l.length) : ∃ b q, p = some ⟨b, 0, none⟩ ∧ b < w.heap.size ∧ w.cell? ⟨b, 0, none⟩ = some (.int .i64 (l.getD k (0, 0)).1) ∧ w.cell? ⟨b, 2, none⟩ = some (.pointer q) ∧ Nod w (bs.drop (k + 1)) (l.drop (k + 1)) q := by
  rw [List.drop_eq_getElem_cons hk] at h
  have e : bs.drop (k + 1) = (bs.drop k).drop 1 := by rw [List.drop_drop]
  rw [e]
  cases hb : bs.drop k with
  | nil => rw [hb] at h; exact h.elim
  | cons b bs' =>
    rw [hb] at h
    obtain ⟨h1, h2, h3, h4, h5, h6, q, h7, h8⟩ := h
    refine ⟨b, q, h1, h3, ?_, h7, h8⟩
    rw [h4]
    simp [List.getD_eq_getElem?_getD, hk]
theorem stir_below {S : Nat → Prop} {w w' : World} {B : Nat} (h : Stir S w w') (hS : ∀ k, S k → B ≤ k) (hB : B ≤ w.heap.size) : Below B w w' :=
  ⟨h.os, h.tape, h.output, h.size, fun k hk => h.block k (by omega) (fun e => by have := hS k e; omega)⟩
theorem near_take (D : Int → Int) (ps : List Int) (k : Nat) (hk : k ≤ ps.length) : mk.mk (fun i => (near D ps).getD i 0) k = (near D ps).take k := by
  have hl : (near D ps).length = ps.length := nearTo_length _ _ _
  apply List.ext_getElem (by rw [mk_length, List.length_take]; omega)
  intro i h1 h2
  rw [mk_length] at h1
  simp [mk.mk, List.getD_eq_getElem?_getD, hl, show i < ps.length by omega]
set_option maxRecDepth 100000 in
set_option maxHeartbeats 1600000 in
theorem impl_near (a : Option Addr) (rows : List (List Int)) (c : Nat) (a' : Option Addr) (zs : List Int) (c' : Nat) (e : Option Addr) (ps : List Int) (d : Nat) (x : Option Addr) (xs : List Int) (q : Nat) (k : Nat) (w : World) (hr : grid.Reads w a rows) (hp : ints.Reads .i64 w e ps) (hx : ints.Reads .i64 w x xs) (hN : Nbr rows ps xs) (hkk : k ≤ ps.length) :
    Calls Try.prog 64 #[.agg #[.slice a rows.length c, .slice a' zs.length c'], .slice e ps.length d, .slice x xs.length q, .int .i64 k] w (intfns.Made ((near (dist rows xs) ps).take k) w) := by
  obtain ⟨i0, hi, hz0, hz1, hz2⟩ := info_parts mk.infoInt
  have HNB := Lib.hid hN
  have Hhr := Lib.hid hr
  have Hhp := Lib.hid hp
  have Hhx := Lib.hid hx
  have HhN := Lib.hid hN
  clear hr hp hx hN
  go_enter Try.func64, Try.ntmps64
  obtain ⟨wb1, hw1⟩ : ∃ wb1 : World, wb1 = w.alloc (.cells #[.slice a rows.length c, .slice a' zs.length c'] 29) := ⟨_, rfl⟩
  have z1 : wb1.heap.size = w.heap.size + 1 := by rw [hw1]; simp
  have x0_0 := (by rw [hw1]; exact cell_new _ _ _ rfl rfl : wb1.cell? ⟨w.heap.size, 0, none⟩ = some (.slice a rows.length c))
  have x0_1 := (by rw [hw1]; exact cell_new _ _ _ rfl rfl : wb1.cell? ⟨w.heap.size, 1, none⟩ = some (.slice a' zs.length c'))
  have HB0 := Lib.hid (show Below w.heap.size w wb1 by rw [hw1]; exact (Below.refl w.heap.size w).alloc (Nat.le_refl _) _)
  have s1 : w.heap.size + 1 ≤ wb1.heap.size := by omega
  have HZ1 := Lib.hid z1
  clear z1
  go_wp2_with fail
  rw [← hw1]
  clear hw1
  obtain ⟨D, hD⟩ : ∃ D : Int → Int, D = dist rows xs := ⟨_, rfl⟩
  have HFD := Lib.hid (show ∀ (e' : Ending) (w' : World), intfns.Made ((near D ps).take k) w e' w' → intfns.Made ((near (dist rows xs) ps).take k) w e' w' from by rw [hD]; exact fun _ _ h => h)
  go_loopw [9, 19] (fun v i wr => ∃ (k1 : Nat) (q1 : Option Addr) (bs : List Nat), k1 ≤ ps.length ∧ i = .int .i64 k1 ∧ v = .pointer q1 ∧ Nod wr bs (chL D (nearTo D ps k1)) q1 ∧ (∀ b ∈ bs, wb1.heap.size ≤ b) ∧ Below wb1.heap.size wb1 wr) (fun _ i _ => ps.length - (intOf i).toNat)
  case atStart => exact ⟨0, none, [], Nat.zero_le _, rfl, rfl, rfl, fun b hb => by simp at hb, Below.refl _ _⟩
  case round =>
    obtain ⟨k1, q1, bs, hk1, rfl, rfl, hnod, hbs, hbel⟩ := hrel
    have HND := Lib.hid hnod
    have HBS := Lib.hid hbs
    have HBl := Lib.hid hbel
    have hsz := hbel.size
    have h16p := HNB.out.2.1
    replace x0_0 := cell_below hbel x0_0 (by omega)
    replace x0_1 := cell_below hbel x0_1 (by omega)
    clear hnod hbs
    by_cases hlt : k1 < ps.length
    · obtain ⟨be, off, rfl, hbe, hce⟩ := (Hhp.out.below HB0.out).at hlt
      replace hce := cell_below hbel hce (by omega)
      obtain ⟨hp0, hp1, hpr⟩ := HNB.out.2.2 k1 hlt
      obtain ⟨m, hm⟩ : ∃ m : Nat, ps.getD k1 0 = (m : Int) := ⟨(ps.getD k1 0).toNat, by omega⟩
      have HCH := Lib.hid (chL_succ D ps k1)
      have hdm : D (ps.getD k1 0) = sq (rows.getD m []) xs := by rw [hD, hm]; unfold dist; rw [Int.toNat_natCast]
      rw [hm, Int.toNat_natCast] at hpr
      rw [hm] at hce hp1
      rw [hdm, hm] at HCH
      have hmr : m < rows.length := by omega
      obtain ⟨bl, off2, rp, rq, hab, hbl, hcr, hpq, hrow⟩ := (Hhr.out.below HB0.out).at hmr
      subst hab
      replace hcr := cell_below hbel hcr (by omega)
      have hl4 := (pointB_iff _).1 ((pairB_iff _ _).1 hpr).1
      have hl5 := (pointB_iff _).1 ((pairB_iff _ _).1 hpr).2.1
      have HSQ := Lib.hid (impl_yes rp (rows.getD m []) rq x xs q wr (hrow.below hbel) ((Hhx.out.below HB0.out).below hbel) (by omega) (by omega) (Lib.hid hpr))
      have i1 : (0 : Int) ≤ (k1 : Int) := by omega
      have i2 : (k1 : Int) < (ps.length : Int) := by omega
      have i3 : (0 : Int) ≤ (m : Int) := by omega
      have i4 : (m : Int) < (rows.length : Int) := by omega
      clear hbel hrow hpq hpr hdm hl4 hl5 hm hp0 hp1
      generalize rows.getD m [] = r at *
      generalize ps.getD k1 0 = z at *
      generalize sq r xs = dd at *
      go_wp2_with fail
      refine HSQ.out.mono ?_
      rintro e' w2 ⟨rfl, hb2⟩
      have HB2 := Lib.hid hb2
      have hs2 := hb2.size
      have HW := Lib.hid (with_any (chL D (nearTo D ps k1)) bs q1 (m : Int) dd w2 (HND.out.below hb2))
      clear hb2
      go_wp2_with fail
      refine HW.out.mono ?_
      rintro e' w3 ⟨q3, bs3, rfl, hn3, hs3, ht3⟩
      have HN3 := Lib.hid hn3
      have HS3 := Lib.hid (show ∀ b ∈ bs3, wb1.heap.size ≤ b from fun b hb => by
        rcases hs3 b hb with h | h
        · exact HBS.out b h
        · omega)
      have HB3 := Lib.hid ((HBl.out.trans (HB2.out.mono hsz)).trans (stir_below ht3 HBS.out (by omega)))
      clear hn3 hs3 ht3
      go_wp2_with fail
      go_roundw
      case rel => exact ⟨k1 + 1, q3, bs3, by omega, by go_num, rfl, by rw [← HCH.out]; exact HN3.out, HS3.out, HB3.out⟩
      case measure => simp [intOf]; omega
    · obtain rfl : k1 = ps.length := by omega
      clear hbel
      obtain ⟨wa, hwa⟩ : ∃ wa, wa = wr := ⟨_, rfl⟩
      subst hwa
      have HN0 := Lib.hid (show Nod wa (bs.drop 0) ((chL D (near D ps)).drop 0) q1 from HND.out)
      have HLN := Lib.hid (show (near D ps).length = ps.length from nearTo_length _ _ _)
      have HTK := Lib.hid (near_take D ps k hkk)
      have HGD := Lib.hid (chL_getD D (near D ps))
      have HCL := Lib.hid (chL_length D (near D ps))
      clear HND HBS hD
      obtain ⟨L, hL⟩ : ∃ L : List Int, near D ps = L := ⟨_, rfl⟩
      rw [hL] at HN0 HLN HTK HGD HCL
      generalize chL D L = CH at *
      have hk16 : k ≤ 16 := by have := HNB.out.2.1; omega
      have hs1 : w.heap.size ≤ wa.heap.size := by omega
      go_wp2_with (refine wpList_make_full _ rfl _ _ 23 rfl w.heap.size 3 i0 (.int .i64 0) 1 Try.underlying23 hi hz0 hz1 .i64 .i64 _ _ k rfl rfl rfl rfl (by rw [hz2]; omega) (by unfold maxLen; omega) hs1 ?_; intro w4 hown1 hgrow1; refine Hid.out ?_)
      have hb4 : Below wa.heap.size wa w4 := (Below.refl _ _).grown hgrow1 (Nat.le_refl _) (by simp)
      have hs4 := hb4.size
      rw [show (Value.int .i64 0).cells = #[Value.int .i64 0] from rfl, Nat.mul_one, toList_madeCells_one, ← fil_zero (fun i => L.getD i 0)] at hown1
      have HO1 := Lib.hid hown1
      have HB4 := Lib.hid hb4
      have HB5 := Lib.hid (HB0.out.trans ((HBl.out.trans (hb4.mono hsz)).mono (by omega)))
      clear hgrow1 hown1 hb4
      refine Lib.hid ?_
      go_wp2_with fail
      go_loopw [15, 16] (fun i v wr => ∃ (k2 : Nat) (q2 : Option Addr), k2 ≤ k ∧ i = .int .i64 k2 ∧ v = .pointer q2 ∧ Nod wa (bs.drop k2) (CH.drop k2) q2 ∧ wr.ownsRow w.heap.size 3 1 (.slice (some ⟨wa.heap.size, 0, none⟩) k k) k (fil (fun i => L.getD i 0) k k2) ∧ Below wa.heap.size wa wr) (fun i _ _ => k - (intOf i).toNat)
      case atStart => exact ⟨0, q1, Nat.zero_le _, rfl, rfl, HN0.out, HO1.out, HB4.out⟩
      case round =>
        obtain ⟨k2, q2, hk2, rfl, rfl, hnod2, hown, hbel5⟩ := hrel
        have hsz5 := hbel5.size
        by_cases hlt2 : k2 < k
        · obtain ⟨b, q3, rfl, hbw, hc0, hc2, hn3⟩ := Nod.step hnod2 (by have := HCL.out; have := HLN.out; omega)
          replace hc0 := cell_below hbel5 hc0 hbw
          replace hc2 := cell_below hbel5 hc2 hbw
          have HE := Lib.hid (HGD.out k2 (by have := HLN.out; omega))
          have hcell : wr.cell? ⟨wa.heap.size, k2, none⟩ = some (.int .i64 0) := by rw [hown.cellAt k2 (by omega), fil_at _ _ k2 hlt2]
          have hfro := hown.frozenAt k2
          have hst := (hown.stored k2 (.int .i64 (L.getD k2 0))).1
          rw [HE.out] at hc0
          have HST := Lib.hid (show (wr.setCell ⟨wa.heap.size, k2, none⟩ (.int .i64 (L.getD k2 0))).ownsRow w.heap.size 3 1 (.slice (some ⟨wa.heap.size, 0, none⟩) k k) k (fil (fun i => L.getD i 0) k (k2 + 1)) by rw [← fil_succ (fun i => L.getD i 0) _ k2 hlt2]; exact hst)
          have HN3 := Lib.hid hn3
          have HB6 := Lib.hid hbel5
          have c2 := (World.cell?_setCell_other wr ⟨wa.heap.size, k2, none⟩ ⟨b, 2, none⟩ (.int .i64 (L.getD k2 0)) (by simp)).trans hc2
          have i1 : (0 : Int) ≤ (k2 : Int) := by omega
          have i2 : (k2 : Int) < (k : Int) := by omega
          clear hbel5 hst hown hnod2 hn3 HO1 HN0 HE
          generalize L.getD k2 0 = y at *
          go_wp2_with fail
          go_quiet (fail)
          go_wp2_with fail
          go_roundw
          case rel => exact ⟨k2 + 1, q3, by omega, by go_num, rfl, HN3.out, HST.out, ints.below_drewN (HB6.out.setCell (Nat.le_refl _) _) _⟩
          case measure => simp [intOf]; omega
        · obtain rfl : k2 = k := by omega
          have HF := Lib.hid (show intfns.Made ((near D ps).take k2) w (.returned (.slice (some ⟨wa.heap.size, 0, none⟩) k2 k2)) wr from by
            rw [hL, ← HTK.out]
            refine ⟨_, rfl, ?_, HB0.out.trans ((HBl.out.trans (hbel5.mono hsz)).mono (by omega))⟩
            have h9 := hown
            rw [fil_all] at h9
            have h8 : OwnI w.heap.size wr.heap.size wr (.slice (some ⟨wa.heap.size, 0, none⟩) (mk.mk (fun i => L.getD i 0) k2).length k2) (mk.mk (fun i => L.getD i 0) k2) := OwnI.of (by rw [mk_length]; exact h9)
            rw [mk_length] at h8
            exact h8)
          clear hown hbel5 hnod2 HO1 HN0
          go_wp2_with fail
          go_ret
          exact HFD.out _ _ HF.out
end Go.Proofs.Ytkbcofgigfnfaaa.neari
