/- Several texts in one. -/
import Derived.Deep.AppendLies
import Derived.Test.YthohnnobahcdpaaBrG34
namespace Go.Proofs.Ythohnnobahcdpaa.stmi
open Go.RowKit own pp nums bndp bndi stmp
set_option linter.unusedVariables false
set_option linter.unusedSimpArgs false

set_option maxRecDepth 100000 in
set_option maxHeartbeats 1600000 in
theorem impl_at (a : Option Addr) (rows : List (List Int)) (c : Nat) (a' : Option Addr) (zs : List Int) (c' : Nat) (pl : Nat) (wt : Int) (w : World) (hr : grid.Reads w a rows) (h16 : rows.length ≤ 16) (h0 : 0 < rows.length) (hF : PlFit rows pl) (hw : wt = 1 ∨ wt = -1) (n : Nat) (hN : Hid ((rows.getD 0 []).length = n)) (h4 : n ≤ 4) (hpl : pl < n) :
    Calls Try.prog 71 #[.agg #[.slice a rows.length c, .slice a' zs.length c'], .int .i64 pl, .int .i64 wt] w (fun e w' => ∃ v, e = .returned v ∧ OwnJ w.heap.size w'.heap.size w' v (stAt n pl wt (bnds rows pl wt)) ∧ Below w.heap.size w w') := by
  obtain ⟨i0, hi, hz0, hz1, hz2⟩ := info_parts mk.infoInt
  obtain ⟨j0, hj, hjz0, hjz1, hjz2⟩ := info_parts infoP
  have HR := Lib.hid hr
  have HBN := Lib.hid (fun (wa : World) (hB : Below w.heap.size w wa) => impl_bounds a rows c a' zs c' pl wt wa (hr.below hB) h16 h0 hF hw)
  have hbl17 := bnds_length rows pl wt h16
  clear hr hF hw
  have o0 : (0 : Int) < (rows.length : Int) := by omega
  have o1 : (0 : Int) ≤ (n : Int) := by omega
  have o2 : (n : Int) ≤ 4 := by omega
  have o3 : (pl : Int) < (n : Int) := by omega
  have o4 : (0 : Int) ≤ (pl : Int) := by omega
  go_enter Try.func71, Try.ntmps71
  obtain ⟨wb1, hw1⟩ : ∃ wb1 : World, wb1 = w.alloc (.cells #[.slice a rows.length c, .slice a' zs.length c'] 38) := ⟨_, rfl⟩
  have z1 : wb1.heap.size = w.heap.size + 1 := by rw [hw1]; simp
  have x0_0 := (by rw [hw1]; exact cell_new _ _ _ rfl rfl : wb1.cell? ⟨w.heap.size, 0, none⟩ = some (.slice a rows.length c))
  have x0_1 := (by rw [hw1]; exact cell_new _ _ _ rfl rfl : wb1.cell? ⟨w.heap.size, 1, none⟩ = some (.slice a' zs.length c'))
  have HB0 := Lib.hid (show Below w.heap.size w wb1 by rw [hw1]; exact (Below.refl w.heap.size w).alloc (Nat.le_refl _) _)
  have s1 : w.heap.size + 1 ≤ wb1.heap.size := by omega
  have HZ1 := Lib.hid z1
  clear z1
  go_wp2_with fail
  rw [← hw1]
  clear hw1
  rw [← HZ1.out]
  have HE := Lib.hid (emptyJ wb1)
  have hbe := below_alloc wb1 (.cells #[] 27)
  have sE : (wb1.alloc (.cells #[] 27)).heap.size = wb1.heap.size + 1 := by simp
  generalize hwe : wb1.alloc (.cells #[] 27) = wE at *
  refine (HBN.out _ (HB0.out.trans (hbe.mono (by omega)))).mono ?_
  rintro e w2 ⟨v9, rfl, ho9, hb9⟩
  obtain ⟨pb, qb, rfl, hrb, _, _⟩ := ho9.slice
  have HRB := Lib.hid hrb
  have HLT0 := Lib.hid (fun g (hg : (Value.slice pb (bnds rows pl wt).length qb).ownBlock = some g) => (show wb1.heap.size + 1 ≤ g by have h1 := (ho9.lt hg).1; rw [sE] at h1; exact h1))
  have HBE2 := Lib.hid (hbe.trans (hb9.mono (by omega)))
  have HK0 := Lib.hid (show OwnK wb1.heap.size w2.heap.size w2 (.slice (some ⟨wb1.heap.size, 0, none⟩) 0 0) [] [] from ⟨ownsRow_block HE.out.1 (fun g hg => hb9.block g (HE.out.1.lt g hg).2), fun g hg => by have h1 := HE.out.1.lt g hg; have h2 := hb9.size; omega, RowsOf.nil _ _ _⟩)
  clear hwe HE hbe ho9 hb9 hrb HBN sE
  generalize hbs : bnds rows pl wt = bs at *
  have HBS := Lib.hid hbs
  clear hbs
  go_wp2_with fail
  have HLT := Lib.hid (show ∀ g, (Value.slice pb bs.length qb).ownBlock = some g → wb1.heap.size + 1 ≤ g from fun g hg => HLT0.out g hg)
  clear HLT0
  go_loopw [7, 17] (fun v i wr => ∃ (k : Nat) (cs : List Value), k ≤ bs.length ∧ i = .int .i64 k ∧ OwnK wb1.heap.size wr.heap.size wr v (stAt n pl wt (bs.take k)) cs ∧ Below wb1.heap.size wb1 wr ∧ w2.heap.size ≤ wr.heap.size ∧ Hid (∀ g, g < w2.heap.size → g ≠ wb1.heap.size → wr.heap[g]? = w2.heap[g]?) ∧ Hid (∀ g, v.ownBlock = some g → g = wb1.heap.size ∨ w2.heap.size ≤ g)) (fun _ i _ => bs.length - (intOf i).toNat)
  case atStart => exact ⟨0, [], Nat.zero_le _, rfl, HK0.out, HBE2.out, Nat.le_refl _, fun g _ _ => rfl, fun g hg => .inl (by simpa [Value.ownBlock] using hg.symm)⟩
  case round =>
    obtain ⟨k, cs, hk, rfl, hown, hbel, hs2, hkeep, hblk⟩ := hrel
    replace x0_0 := cell_below hbel x0_0 (by omega)
    have hsz := hbel.size
    by_cases hlt : k < bs.length
    · obtain ⟨bl, off, rp, rq, hab, hbl, hc0, hpq, hrow⟩ := (HR.out.below HB0.out).at h0
      subst hab
      rw [Nat.add_zero, hN.out] at hc0
      replace hc0 := cell_below hbel hc0 (by omega)
      obtain ⟨gb, ob, hpe, hgb, hcb⟩ := HRB.out.at hlt
      subst hpe
      have hgb2 := HLT.out gb rfl
      replace hcb : wr.cell? ⟨gb, ob + k, none⟩ = some (.int .i64 (bs.getD k 0)) := (World.cell?_of_block (hkeep.out gb hgb (by omega))).trans hcb
      have HS := Lib.hid (stAt_succ n pl wt bs k hlt)
      have hpsl : (stAt n pl wt (bs.take k)).length = k := by rw [stAt_length, List.length_take]; omega
      have HO := Lib.hid hown
      have HBl := Lib.hid hbel
      have i1 : (0 : Int) ≤ (k : Int) := by omega
      have i2 : (k : Int) < (bs.length : Int) := by omega
      clear hown hbel hpq hrow
      have hns : 0 < rows.length := h0
      generalize bs.getD k 0 = bb at *
      generalize stAt n pl wt (bs.take k) = ps at *
      go_wp2_with (refine wpList_make_full _ rfl _ _ 22 rfl wr.heap.size 3 i0 (.int .i64 0) 1 Try.underlying22 hi hz0 hz1 .i64 .i64 _ _ n rfl rfl rfl rfl (by rw [hz2]; omega) (by unfold maxLen; omega) (Nat.le_refl _) ?_; intro w1 hown1 hgrow1; refine Hid.out ?_)
      refine Lib.hid ?_
      have hb1 : Below wr.heap.size wr w1 := (Below.refl _ _).grown hgrow1 (Nat.le_refl _) (by simp)
      rw [show (Value.int .i64 0).cells = #[Value.int .i64 0] from rfl, Nat.mul_one, toList_madeCells_one] at hown1
      have hcell : w1.cell? ⟨wr.heap.size, pl, none⟩ = some (.int .i64 0) := by rw [hown1.cellAt pl (by omega), List.getElem?_replicate, if_pos hpl]
      have hfro := hown1.frozenAt pl
      have hst := (hown1.stored pl (.int .i64 wt)).1
      rw [zero_unit] at hst
      have hwl := (hown1.lt wr.heap.size rfl).2
      have HWT := Lib.hid (show OwnI wr.heap.size w1.heap.size (w1.setCell ⟨wr.heap.size, pl, none⟩ (.int .i64 wt)) (.slice (some ⟨wr.heap.size, 0, none⟩) n n) (unitL n pl wt) from ⟨by rw [unit_length]; exact hst, fun g hg => by (have e2 : wr.heap.size = g := by simpa [Value.ownBlock] using hg); omega⟩)
      have HB1 := Lib.hid (show Below wr.heap.size wr (w1.setCell ⟨wr.heap.size, pl, none⟩ (.int .i64 wt)) from hb1.setCell (Nat.le_refl _) _)
      have HVL := Lib.hid (fun g (e : u7.ownBlock = some g) => HO.out.1.lt g e)
      have HLO := Lib.hid (show (w1.setCell ⟨wr.heap.size, pl, none⟩ (.int .i64 wt)).ownsRow wb1.heap.size 27 2 u7 k (flatJ cs ps) from by
        have h1 := HO.out.1
        rw [hpsl] at h1
        exact ownsRow_block h1 (fun g hg => HB1.out.block g (HVL.out g hg).2))
      have HNW := Lib.hid (show ∀ j u, [Value.slice (some ⟨wr.heap.size, 0, none⟩) n n, .int .i64 bb][j]? = some u → ((w1.setCell ⟨wr.heap.size, pl, none⟩ (.int .i64 wt)).alloc (.cells #[.slice (some ⟨wr.heap.size, 0, none⟩) n n, .int .i64 bb] 27)).cell? ((⟨w1.heap.size, 0, none⟩ : Addr).add j) = some u from by
        have := cell_two_new (w1.setCell ⟨wr.heap.size, pl, none⟩ (.int .i64 wt)) (.slice (some ⟨wr.heap.size, 0, none⟩) n n) (.int .i64 bb) 27
        rw [size_set] at this
        exact this)
      have hs9 : wb1.heap.size ≤ w1.heap.size := by omega
      clear hown1 hgrow1 hb1 hst
      go_wp2_with (at_builtin; refine wpList_append_lies _ rfl _ _ 35 rfl wb1.heap.size 27 j0 (.agg #[.slice none 0 0, .int .i64 0]) 2 32 Try.underlying35 hj hjz0 hjz1 hjz2 rfl (by decide) u7 k (flatJ cs ps) rfl (HLO.out.alloc _) _ 1 1 [.slice (some ⟨wr.heap.size, 0, none⟩) n n, .int .i64 bb] rfl rfl HNW.out (by simp [Value.oneCell']) (by omega) (by unfold maxLen; omega) (by omega) (by simp; omega) (w1.heap.size + 1) (by simp) ?_; intro gg cap w4 hown4 hgrow4 hat4 hlt4)
      have HB4 := Lib.hid (HB1.out.trans (below_alloc _ (.cells #[.slice (some ⟨wr.heap.size, 0, none⟩) n n, .int .i64 bb] 27) |>.mono (by rw [size_set]; omega)))
      have HWX := Lib.hid ((HWT.out.below (below_alloc _ (.cells #[.slice (some ⟨wr.heap.size, 0, none⟩) n n, .int .i64 bb] 27))).mono (Nat.le_refl _) (by rw [World.size_alloc, size_set]; omega) : OwnI wr.heap.size ((w1.setCell ⟨wr.heap.size, pl, none⟩ (.int .i64 wt)).alloc (.cells #[.slice (some ⟨wr.heap.size, 0, none⟩) n n, .int .i64 bb] 27)).heap.size ((w1.setCell ⟨wr.heap.size, pl, none⟩ (.int .i64 wt)).alloc (.cells #[.slice (some ⟨wr.heap.size, 0, none⟩) n n, .int .i64 bb] 27)) (.slice (some ⟨wr.heap.size, 0, none⟩) n n) (unitL n pl wt))
      have HPU := Lib.hid (OwnK.push (b := bb) HO.out HB4.out hsz HWX.out (by rw [hpsl]; exact hown4) hgrow4)
      have hs4 : wr.heap.size ≤ w4.heap.size := by have h1 := HB4.out.size; have h2 := hgrow4.size; omega
      have HB5 := Lib.hid (show Below wb1.heap.size wb1 w4 from (HBl.out.trans (HB4.out.mono hsz)).grown hgrow4 (by have := HB4.out.size; omega) (fun g e => (HVL.out g e).1))
      have HK5 := Lib.hid (show ∀ g, g < w2.heap.size → g ≠ wb1.heap.size → w4.heap[g]? = w2.heap[g]? from fun g h1 h2 => by
        refine (hgrow4.block g (by have := HB4.out.size; omega) fun e => ?_).trans ((HB4.out.block g (by omega)).trans (hkeep.out g h1 h2))
        rcases hblk.out g e.symm with h3 | h3 <;> omega)
      have HK6 := Lib.hid (show ∀ g, (Value.slice (some ⟨gg, 0, none⟩) (k + 1) cap).ownBlock = some g → g = wb1.heap.size ∨ w2.heap.size ≤ g from fun g hg => by
        have e2 : gg = g := by simpa [Value.ownBlock] using hg
        subst e2
        rcases hat4 with h3 | h3
        · exact hblk.out gg h3
        · right
          have h4 : gg = w1.heap.size + 1 := by simpa using h3
          omega)
      clear hown4 hgrow4 hat4 hlt4
      go_wp2_with fail
      go_roundw
      case rel => exact ⟨k + 1, _, by omega, by go_num, by rw [HS.out]; exact HPU.out, HB5.out, by omega, HK5.out, HK6.out⟩
      case measure => simp [intOf]; omega
    · obtain rfl : k = bs.length := by omega
      rw [List.take_length] at hown
      have HO := Lib.hid (show OwnJ w.heap.size wr.heap.size wr u7 (stAt n pl wt bs) from (show OwnJ wb1.heap.size wr.heap.size wr u7 (stAt n pl wt bs) from ⟨cs, hown⟩).mono (by omega) (Nat.le_refl _))
      have HB9 := Lib.hid (HB0.out.trans (hbel.mono (by omega)))
      clear hown hbel
      go_wp2_with fail
      go_ret
      exact ⟨_, rfl, by rw [HBS.out]; exact HO.out, HB9.out⟩
end Go.Proofs.Ythohnnobahcdpaa.stmi
