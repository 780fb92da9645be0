/- Several texts in one. -/
import Derived.Deep.DrawnRows
import Derived.Deep.RegionHeld3
import Derived.Maps.AppendAt
import Derived.Test.YtoephhhofkmgjabSpG22
import Derived.Test.YtoephhhofkmgjabSpG32
import Derived.Test.YtoephhhofkmgjabSpG9
import Derived.Test.YtoephhhofkmgjabSpG6
namespace Go.Proofs.Ytoephhhofkmgjab.tabs9
open Go.RowKit own pp nums planes netp netb givep tabp gives own1 stepa
set_option linter.unusedVariables false
set_option linter.unusedSimpArgs false

theorem infoSl : (Try.prog.info? 22).map (fun i => (i.zero, i.size, i.bytes)) = some (some (.slice none 0 0), 1, 24) := by kernel_rfl
theorem blk_set {cs : List Value} {m i gb : Nat} {c' : Value} (h : ¬ Blk cs m gb) (hl : cs.length = m) (hi : i < m) (hc : c'.ownBlock ≠ some gb) : ¬ Blk (cs.set i c') m gb := by
  rintro ⟨j, hj, he⟩
  by_cases e : i = j
  · subst e
    rw [tabp.getD_set_eq _ _ _ _ (by omega)] at he
    exact hc he
  · rw [tabp.getD_set_ne _ _ _ _ _ e] at he
    exact h ⟨j, hj, he⟩
set_option maxRecDepth 100000 in
set_option maxHeartbeats 1600000 in
theorem spec_tables (a : Option Addr) (ls : List (List (List Int × Int))) (c : Nat) (n : Nat) (w : World) (hr : ReadsL w a ls) (hn : ls.length ≤ 1048576) (h : netB (n : Int) ls = true) :
    Calls Try.prog 54 #[.agg #[.int .i64 (n : Nat), .slice a ls.length c]] w (MadeG (tabs n ls) w) := by
  obtain ⟨i0, hi, hz0, hz1, hz2⟩ := info_parts infoSl
  obtain ⟨j0, hj, hjz0, hjz1, hjz2⟩ := info_parts mk.infoInt
  have hl6 := net_len h
  have hn14 : 1 ≤ n ∧ n ≤ 4 := by have := (netB_iff _ _).1 h; omega
  have hm14 := net_lay h (ls.length - 1) (by omega)
  have HGL := Lib.hid (fun p => gvs_length h p)
  have hpw := mk.pow4 hn14.2
  have HPW := Lib.hid (show ((2 : Int) ^ n) = ((2 ^ n : Nat) : Int) from by simp)
  have HTB := Lib.hid (show tabs n ls = rowsAt (gvs n ls) (outs ls) (2 ^ n) 0 from rfl)
  have HBT := Lib.hid (fun (p : Nat) (W : World) (hp : p < 2 ^ n) => bitw.spec_bits n p W hn14.2 (by omega))
  have HRN := Lib.hid (fun (p : Nat) (W : World) (pb : Option Addr) (qb : Nat) (hp : p < 2 ^ n) (hB : Below w.heap.size w W) (hrb : ints.Reads .i64 W pb (bitw.bitsTo p n)) => (show Calls Try.prog 91 #[.agg #[.int .i64 (n : Nat), .slice a ls.length c], .slice pb (bitw.bitsTo p n).length qb] W (intfns.Made (gvs n ls p) W) from spec_run a ls c (n : Int) pb (bitw.bitsTo p n) qb W (hr.below hB) hrb hn h (by rw [bitw.bitsTo_length]) (bits_numsB p n)))
  obtain ⟨K, hK⟩ : ∃ K, ls.length = K + 1 := ⟨ls.length - 1, by omega⟩
  have HHD := Lib.hid (fun (W : World) (hB : Below w.heap.size w W) => (hr.below hB).at (k := K) (by omega))
  have HOU := Lib.hid (show (ls.getD K []).length = outs ls by unfold outs; rw [hK]; rfl)
  rw [show ls.length - 1 = K by omega, HOU.out] at hm14
  rw [HTB.out]
  rw [hK] at hl6 hn HRN ⊢
  clear hr HTB h hK
  generalize gvs n ls = G at *
  generalize outs ls = m at *
  obtain ⟨N, hN⟩ : ∃ N : Nat, 2 ^ n = N := ⟨_, rfl⟩
  rw [hN] at hpw HPW HBT HRN ⊢
  clear hN
  go_enter Try.func54, Try.ntmps54
  obtain ⟨wb1, hw1⟩ : ∃ wb1 : World, wb1 = w.alloc (.cells #[.int .i64 (n : Nat), .slice a (K + 1) c] 36) := ⟨_, rfl⟩
  have z1 : wb1.heap.size = w.heap.size + 1 := by rw [hw1]; simp
  have x0_0 := (by rw [hw1]; exact cell_new _ _ _ rfl rfl : wb1.cell? ⟨w.heap.size, 0, none⟩ = some (.int .i64 (n : Nat)))
  have x0_1 := (by rw [hw1]; exact cell_new _ _ _ rfl rfl : wb1.cell? ⟨w.heap.size, 1, none⟩ = some (.slice a (K + 1) c))
  have HB0 := Lib.hid (show Below w.heap.size w wb1 by rw [hw1]; exact (Below.refl w.heap.size w).alloc (Nat.le_refl _) _)
  have s1 : w.heap.size + 1 ≤ wb1.heap.size := by omega
  have HZ1 := Lib.hid z1
  clear z1
  obtain ⟨b0, off0, pl, ql, hab, hb0, hcl, _, _⟩ := HHD.out wb1 HB0.out
  rw [HOU.out] at hcl
  subst hab
  clear HHD
  rw [hw1] at hcl
  go_wp2_with (rw [← hw1]; refine wpList_make_full _ rfl _ _ 28 rfl wb1.heap.size 22 i0 (.slice none 0 0) 1 Try.underlying28 hi hz0 hz1 .i64 .i64 _ _ m rfl rfl rfl rfl (by rw [hz2]; omega) (by unfold maxLen; omega) (Nat.le_refl _) ?_; intro w1 hown1 hgrow1; refine Hid.out ?_)
  refine Lib.hid ?_
  clear hw1
  obtain ⟨g0, hg0⟩ : ∃ g0, g0 = wb1.heap.size := ⟨_, rfl⟩
  have hb1 : Below wb1.heap.size wb1 w1 := (Below.refl _ _).grown hgrow1 (Nat.le_refl _) (by simp)
  rw [show (Value.slice none 0 0).cells = #[Value.slice none 0 0] from rfl, Nat.mul_one, toList_madeCells_one] at hown1
  have hoc0 : OwnC wb1.heap.size w1.heap.size w1 (.slice (some ⟨g0, 0, none⟩) m m) (rowsAt G m 0 0) (List.replicate m (.slice none 0 0)) := by rw [rowsAt_zero, hg0]; exact rows_empty hown1
  rw [show w.heap.size + 1 = wb1.heap.size from HZ1.out.symm, ← hg0]
  have hgw : wb1.heap.size ≤ g0 := by omega
  have HOC00 := Lib.hid hoc0
  have HB1 := Lib.hid hb1
  have X00 := Lib.hid x0_0
  have X01 := Lib.hid x0_1
  clear hown1 hgrow1 hoc0 hb1 hcl hg0 hb0 x0_0 x0_1
  go_wp2_with fail
  go_loopw [4] (fun z wr => ∃ (k : Nat) (cs : List Value), k ≤ N ∧ z = .int .i64 k ∧ OwnC wb1.heap.size wr.heap.size wr (.slice (some ⟨g0, 0, none⟩) m m) (rowsAt G m k 0) cs ∧ Below wb1.heap.size wb1 wr) (fun z _ => N - (intOf z).toNat)
  case atStart => exact ⟨0, _, by omega, rfl, HOC00.out, HB1.out⟩
  case round =>
    obtain ⟨k, cs0, hk, rfl, hoc, hbel⟩ := hrel
    have hsz := hbel.size
    have hgl := hoc.1.lt g0 rfl
    have x0_0 := cell_below hbel X00.out (by omega)
    have x0_1 := cell_below hbel X01.out (by omega)
    have HBl := Lib.hid (HB0.out.trans (hbel.mono (by omega)))
    have HBw := Lib.hid hbel
    have HOC0 := Lib.hid hoc
    have hsh : (2 : Int) ^ n = (N : Int) := HPW.out
    have hmin : min n 64 = n := by omega
    clear hbel hoc
    by_cases hkN : k < N
    · have i1 : decide ((k : Int) < (N : Int)) = true := by simp; omega
      go_wp2_with fail
      clear hsh hmin i1
      refine wp_region_noPanic ?_
      refine wp_region_held_drew (S := fun w' => w'.cell? ⟨w.heap.size, 0, none⟩ = some (.int .i64 (n : Nat)) ∧ w'.cell? ⟨w.heap.size, 1, none⟩ = some (.slice (some ⟨b0, off0, none⟩) (K + 1) c)) (by kernel_rfl) ?_ (fun hHeld => ?_)
      · exact ⟨x0_0, x0_1⟩
      refine wpAnyH_take (i := 0) (v := ?_) rfl (by kernel_rfl) (by kernel_rfl) (by kernel_rfl) (fun _ _ _ h => h) (Or.inl ⟨by rfl, ?_⟩) (by assumption) ?_
      rotate_left
      · intro w9 hSw; (try dsimp only at hSw); go_simp; try with_reducible rfl
      try simp only [List.getElem_toArray, List.getElem_cons_succ, List.getElem_cons_zero, Act.put, List.setIfInBounds_toArray, List.set_cons_zero, List.set_cons_succ]
      refine wpAnyH_take (i := 1) (v := ?_) rfl (by kernel_rfl) (by kernel_rfl) (by kernel_rfl) (fun _ _ _ h => h) (Or.inl ⟨by rfl, ?_⟩) (by assumption) ?_
      rotate_left
      · intro w9 hSw; (try dsimp only at hSw); go_simp; try with_reducible rfl
      try simp only [List.getElem_toArray, List.getElem_cons_succ, List.getElem_cons_zero, Act.put, List.setIfInBounds_toArray, List.set_cons_zero, List.set_cons_succ]
      refine wpAnyH_take (i := 2) (v := ?_) rfl (by kernel_rfl) (by kernel_rfl) (by kernel_rfl) (fun _ _ _ h => h) (Or.inl ⟨by rfl, ?_⟩) (by assumption) ?_
      rotate_left
      · intro w9 hSw; (try dsimp only at hSw); go_simp; try with_reducible rfl
      try simp only [List.getElem_toArray, List.getElem_cons_succ, List.getElem_cons_zero, Act.put, List.setIfInBounds_toArray, List.set_cons_zero, List.set_cons_succ]
      refine wpAnyH_take (i := 3) (v := ?_) rfl (by kernel_rfl) (by kernel_rfl) (by kernel_rfl) (fun _ _ _ h => h) (Or.inl ⟨by rfl, ?_⟩) (by assumption) ?_
      rotate_left
      · intro w9 hSw; (try dsimp only at hSw); go_simp; try with_reducible rfl
      try simp only [List.getElem_toArray, List.getElem_cons_succ, List.getElem_cons_zero, Act.put, List.setIfInBounds_toArray, List.set_cons_zero, List.set_cons_succ]
      refine wpAnyH_ready (rs := [4]) (by kernel_rfl) (by simp) ?_
      refine AllReadyH.cons rfl (fun K hK => ?_) AllReadyH.nil
      clear hHeld
      go_simp
      refine (HBT.out k wr.drew hkN).mono ?_
      rintro e v1 ⟨vb, rfl, hob, hb1⟩
      obtain ⟨pb, qb, rfl, _, _, _⟩ := hob.slice
      have HC1 := Lib.hid ((Below.refl wr.heap.size wr).drew.trans hb1)
      have hs1 := HC1.out.size
      have HOB := Lib.hid hob
      replace x0_0 := cell_below HC1.out x0_0 (by omega)
      replace x0_1 := cell_below HC1.out x0_1 (by omega)
      clear hob hb1
      refine hK.out _ _ ?_ (fun hHeld => ?_)
      · exact ⟨x0_0, x0_1⟩
      clear hK K
      try simp only [List.getElem_toArray, List.getElem_cons_succ, List.getElem_cons_zero, Act.put, List.setIfInBounds_toArray, List.set_cons_zero, List.set_cons_succ]
      refine wpAnyH_ready (rs := [5]) (by kernel_rfl) (by simp) ?_
      refine AllReadyH.cons rfl (fun K hK => ?_) AllReadyH.nil
      clear hHeld
      go_simp
      refine (HRN.out k v1 pb qb hkN (HBl.out.trans (HC1.out.mono (by omega))) HOB.out.reads).mono ?_
      rintro e v2 ⟨vg, rfl, hog, hb2⟩
      have HC2 := Lib.hid (HC1.out.trans (hb2.mono hs1))
      have hs2 := hb2.size
      have HOG := Lib.hid hog
      replace x0_0 := cell_below hb2 x0_0 (by omega)
      replace x0_1 := cell_below hb2 x0_1 (by omega)
      obtain ⟨pg, qg, rfl, hrg, _, _⟩ := hog.slice
      obtain ⟨gb, go, hpg, hgbs, hgc⟩ := own1.reads_pos hrg (by rw [HGL.out]; omega)
      subst hpg
      have hgb1 := (hog.lt (g := gb) rfl).1
      rw [HGL.out] at hgc ⊢
      have HGC := Lib.hid hgc
      clear hog hb2 hrg hgc
      refine hK.out _ _ ?_ (fun hHeld => ?_)
      · exact ⟨x0_0, x0_1⟩
      clear hK K
      try simp only [List.getElem_toArray, List.getElem_cons_succ, List.getElem_cons_zero, Act.put, List.setIfInBounds_toArray, List.set_cons_zero, List.set_cons_succ]
      refine wpAnyH_take (i := 6) (v := ?_) rfl (by kernel_rfl) (by kernel_rfl) (by kernel_rfl) (fun _ _ _ h => h) (Or.inl ⟨by rfl, ?_⟩) (by assumption) ?_
      rotate_left
      · intro w9 hSw; (try dsimp only at hSw); go_simp; try with_reducible rfl
      try simp only [List.getElem_toArray, List.getElem_cons_succ, List.getElem_cons_zero, Act.put, List.setIfInBounds_toArray, List.set_cons_zero, List.set_cons_succ]
      refine wpAnyH_done (by kernel_rfl) ?_ _
      refine NoPanic.normal ?_
      clear hHeld
      have HC2w := Lib.hid (HBw.out.trans (HC2.out.mono hsz))
      have HOC1 := Lib.hid (tabp.OwnC.widen (hi' := v2.heap.size) (tabp.OwnC.belowC HOC0.out HC2.out) (by omega))
      have hgne : gb ≠ g0 := by omega
      have hnk0 : ¬ Blk cs0 m gb := fun hbk => by
        have h9 := HOC0.out.blk (g := gb) (by rw [rowsAt_length]; exact hbk)
        omega
      have HNK0 := Lib.hid hnk0
      clear hnk0 HOC0 HOB HOG HC1
      go_wp2_with fail
      go_loopw [6] (fun z wr => ∃ (i : Nat) (cs : List Value), i ≤ m ∧ z = .int .i64 i ∧ OwnC wb1.heap.size wr.heap.size wr (.slice (some ⟨g0, 0, none⟩) m m) (rowsAt G m k i) cs ∧ (∀ j, j < m → wr.cell? ⟨gb, go + j, none⟩ = some (.int .i64 ((G k).getD j 0))) ∧ ¬ Blk cs m gb ∧ Below wb1.heap.size wb1 wr ∧ v2.heap.size ≤ wr.heap.size) (fun z _ => m - (intOf z).toNat)
      case atStart => exact ⟨0, _, by omega, rfl, HOC1.out, HGC.out, HNK0.out, HC2w.out, Nat.le_refl _⟩
      case round =>
        obtain ⟨i, cs, hi9', rfl, hoc, hgc, hnk, hbel9, hv2s⟩ := hrel
        clear HOC1 HGC HNK0 x0_0 x0_1
        by_cases hi9 : i < m
        · skip
          have HML := Lib.hid (rowsAt_length G m k i)
          have HCL := Lib.hid (show cs.length = m by have := hoc.2.2.1; rw [rowsAt_length] at this; exact this)
          have hrow9 := hoc.2.2.2.1 i (by rw [rowsAt_length]; exact hi9)
          obtain ⟨ph, qh, hci, _, _, _⟩ := hrow9.slice
          have hrl : ((rowsAt G m k i).getD i []).length = k := by rw [rowsAt_getD _ _ _ _ _ hi9, if_neg (by omega), col_len]
          have hown9 := hoc.1
          rw [rowsAt_length] at hown9
          have hch := hown9.cellAt i (by omega)
          have hcc : cs[i]? = some (cs.getD i undef) := by rw [List.getD_eq_getElem?_getD, List.getElem?_eq_getElem (by have := HCL.out; omega)]; rfl
          rw [hcc, hci] at hch
          rw [hci] at hrow9
          have HRW0 := Lib.hid hrow9.1
          have HCI := Lib.hid hci
          have HRS := Lib.hid (rowsAt_set G m k i hi9)
          have HGC := Lib.hid hgc
          have hcg := hgc i hi9
          have HNK := Lib.hid hnk
          have HOC0 := Lib.hid hoc
          have hgl9 := hown9.lt g0 rfl
          have HGZ0 := Lib.hid (show (G k).getD i 0 = (G k).getD i 0 from rfl)
          have HBl9 := Lib.hid hbel9
          have i1 : (0 : Int) ≤ (i : Int) := by omega
          have i2 : (i : Int) < (m : Int) := by omega
          clear hoc hgc hnk hrow9 hci hcc hbel9 HGZ0 hown9
          obtain ⟨z, hz9⟩ : ∃ z, (G k).getD i 0 = z := ⟨_, rfl⟩
          rw [hz9] at hcg HRS
          have HGZ := Lib.hid hz9
          obtain ⟨rr, hrr⟩ : ∃ rr, (rowsAt G m k i).getD i [] = rr := ⟨_, rfl⟩
          rw [hrr] at hrl hch HCI HRW0 HRS
          have HRR := Lib.hid hrr
          rw [hrl] at hch HCI HRW0
          have HRN9 := Lib.hid hrl
          clear hz9 hrr hrl
          go_wp2_with fail
          refine wp_region_noPanic ?_
          refine wp_region_held_drew (S := fun w' => w'.cell? ⟨gb, go + i, none⟩ = some (.int .i64 z)) (by kernel_rfl) ?_ (fun hHeld => ?_)
          · exact hcg
          have hbd : Below wr.heap.size wr wr.drew := (Below.refl _ _).drew
          replace hch := cell_below hbd hch (by omega)
          replace hcg := cell_below hbd hcg (by omega)
          have HRW := Lib.hid (ownsRow_block (w' := wr.drew) HRW0.out (fun g hg => hbd.block g (HRW0.out.lt g hg).2))
          have HOC := Lib.hid (tabp.OwnC.widen (hi' := wr.drew.heap.size) (tabp.OwnC.belowC HOC0.out hbd) hbd.size)
          replace HGC := Lib.hid (fun j (hj9 : j < m) => cell_below hbd (HGC.out j hj9) (by omega))
          have HBd := Lib.hid (HBl9.out.trans (hbd.mono HBl9.out.size))
          have hszd := HBd.out.size
          have hv2d : v2.heap.size ≤ wr.drew.heap.size := Nat.le_trans hv2s hbd.size
          have hgd : g0 < wr.drew.heap.size := Nat.lt_of_lt_of_le hgl9.2 hbd.size
          clear hbd HRW0 HOC0
          generalize hwn : wr.drew = wd at *
          clear hwn
          refine wpAnyH_take (i := 0) (v := ?_) rfl (by kernel_rfl) (by kernel_rfl) (by kernel_rfl) (fun _ _ _ h => h) (Or.inl ⟨by rfl, ?_⟩) (by assumption) ?_
          rotate_left
          · intro w9 hSw; (try dsimp only at hSw); go_simp; try with_reducible rfl
          try simp only [List.getElem_toArray, List.getElem_cons_succ, List.getElem_cons_zero, Act.put, List.setIfInBounds_toArray, List.set_cons_zero, List.set_cons_succ]
          refine wpAnyH_take (i := 1) (v := ?_) rfl (by kernel_rfl) (by kernel_rfl) (by kernel_rfl) (fun _ _ _ h => h) (Or.inl ⟨by rfl, ?_⟩) (by assumption) ?_
          rotate_left
          · intro w9 hSw; (try dsimp only at hSw); go_simp; try with_reducible rfl
          try simp only [List.getElem_toArray, List.getElem_cons_succ, List.getElem_cons_zero, Act.put, List.setIfInBounds_toArray, List.set_cons_zero, List.set_cons_succ]
          refine wpAnyH_take (i := 2) (v := ?_) rfl (by kernel_rfl) (by kernel_rfl) (by kernel_rfl) (fun _ _ _ h => h) (Or.inl ⟨by rfl, ?_⟩) (by assumption) ?_
          rotate_left
          · intro w9 hSw; (try dsimp only at hSw); go_simp; try with_reducible rfl
          try simp only [List.getElem_toArray, List.getElem_cons_succ, List.getElem_cons_zero, Act.put, List.setIfInBounds_toArray, List.set_cons_zero, List.set_cons_succ]
          refine wpAnyH_take (i := 3) (v := ?_) rfl (by kernel_rfl) (by kernel_rfl) (by kernel_rfl) (fun _ _ _ h => h) (Or.inl ⟨by rfl, ?_⟩) (by assumption) ?_
          rotate_left
          · intro w9 hSw; (try dsimp only at hSw); go_simp; try with_reducible rfl
          try simp only [List.getElem_toArray, List.getElem_cons_succ, List.getElem_cons_zero, Act.put, List.setIfInBounds_toArray, List.set_cons_zero, List.set_cons_succ]
          refine wpAnyH_take (i := 4) (v := ?_) rfl (by kernel_rfl) (by kernel_rfl) (by kernel_rfl) (fun _ _ _ h => h) (Or.inl ⟨by rfl, ?_⟩) (by assumption) ?_
          rotate_left
          · intro w9 hSw; (try dsimp only at hSw); go_simp; try with_reducible rfl
          try simp only [List.getElem_toArray, List.getElem_cons_succ, List.getElem_cons_zero, Act.put, List.setIfInBounds_toArray, List.set_cons_zero, List.set_cons_succ]
          refine wpAnyH_take (i := 6) (v := ?_) rfl (by kernel_rfl) (by kernel_rfl) (by kernel_rfl) (fun _ _ _ h => h) (Or.inl ⟨by rfl, ?_⟩) (by assumption) ?_
          rotate_left
          · intro w9 hSw; (try dsimp only at hSw); go_simp; try with_reducible rfl
          try simp only [List.getElem_toArray, List.getElem_cons_succ, List.getElem_cons_zero, Act.put, List.setIfInBounds_toArray, List.set_cons_zero, List.set_cons_succ]
          refine wpAnyH_take (i := 7) (v := ?_) rfl (by kernel_rfl) (by kernel_rfl) (by kernel_rfl) (fun _ _ _ h => h) (Or.inl ⟨by rfl, ?_⟩) (by assumption) ?_
          rotate_left
          · intro w9 hSw; (try dsimp only at hSw); go_simp; try with_reducible rfl
          try simp only [List.getElem_toArray, List.getElem_cons_succ, List.getElem_cons_zero, Act.put, List.setIfInBounds_toArray, List.set_cons_zero, List.set_cons_succ]
          refine wpAnyH_take (i := 8) (v := ?_) rfl (by kernel_rfl) (by kernel_rfl) (by kernel_rfl) (fun _ _ _ h => h) (Or.inl ⟨by rfl, ?_⟩) (by assumption) ?_
          rotate_left
          · intro w9 hSw; (try dsimp only at hSw); go_simp; try with_reducible rfl
          try simp only [List.getElem_toArray, List.getElem_cons_succ, List.getElem_cons_zero, Act.put, List.setIfInBounds_toArray, List.set_cons_zero, List.set_cons_succ]
          refine wpAnyH_take (i := 9) (v := ?_) rfl (by kernel_rfl) (by kernel_rfl) (by kernel_rfl) (fun _ _ _ h => h) (Or.inl ⟨by rfl, ?_⟩) (by assumption) ?_
          rotate_left
          · intro w9 hSw; (try dsimp only at hSw); go_simp; try with_reducible rfl
          try simp only [List.getElem_toArray, List.getElem_cons_succ, List.getElem_cons_zero, Act.put, List.setIfInBounds_toArray, List.set_cons_zero, List.set_cons_succ]
          refine wpAnyH_ready (rs := [5, 10]) (by kernel_rfl) (by simp) ?_
          refine AllReadyH.cons rfl (fun K hK => ?_) ?_
          · skip
            clear hHeld
            go_simp
            refine hK.out _ _ ?_ (fun hHeld => ?_)
            · exact hcg
            clear hK K
            try simp only [List.getElem_toArray, List.getElem_cons_succ, List.getElem_cons_zero, Act.put, List.setIfInBounds_toArray, List.set_cons_zero, List.set_cons_succ]
            refine wpAnyH_ready (rs := [10]) (by kernel_rfl) (by simp) ?_
            refine AllReadyH.cons rfl (fun K hK => ?_) AllReadyH.nil
            clear hHeld
            go_simp
            have HB3 := Lib.hid (below_alloc wd (.cells #[.int .i64 z] 3))
            have hs3 := HB3.out.size
            have HZ0 := Lib.hid (cell_one_new wd (.int .i64 z) 3)
            have hl3 : wd.heap.size < (wd.alloc (.cells #[.int .i64 z] 3)).heap.size := by simp
            replace hch := cell_below HB3.out hch (by omega)
            replace hcg := cell_below HB3.out hcg (by omega)
            generalize hw3 : wd.alloc (.cells #[.int .i64 z] 3) = v3 at *
            clear hw3
            refine hK.out _ _ ?_ (fun hHeld => ?_)
            · exact hcg
            clear hK K
            try simp only [List.getElem_toArray, List.getElem_cons_succ, List.getElem_cons_zero, Act.put, List.setIfInBounds_toArray, List.set_cons_zero, List.set_cons_succ]
            refine wpAnyH_ready (rs := [11]) (by kernel_rfl) (by simp) ?_
            refine AllReadyH.cons rfl (fun K hK => ?_) AllReadyH.nil
            clear hHeld
            have hro := ownsRow_block (w' := v3) HRW.out (fun g hg => HB3.out.block g (HRW.out.lt g hg).2)
            refine step_append_any (by rfl) _ _ 22 (by rfl) wb1.heap.size 3 j0 (.int .i64 0) 1 8 Try.underlying22 hj hjz0 hjz1 hjz2 (by rfl) (by decide) (.slice ph k qh) k (rr.map (Value.int .i64)) (by rfl) hro ⟨wd.heap.size, 0, none⟩ 1 1 [.int .i64 z] (by rfl) (by rfl) HZ0.out (by simp [Value.oneCell']) (by unfold maxLen; omega) (by omega) (by omega) ?_
            intro un4 v4 hown4 hgrow4 hat4
            obtain ⟨g4, cap4, hv4⟩ := ownsRow_succ hown4
            subst hv4
            obtain ⟨hcf, hput⟩ := put_at (w := wd) (w1 := v3) (w2 := v4) (g0 := g0) (m := m) (b := z) (i := i) (c' := .slice (some ⟨g4, 0, none⟩) (k + 1) cap4) HOC.out HML.out hi9 HB3.out (by rw [HRR.out, HRN9.out]; exact hown4) (by rw [HCI.out]; exact hgrow4) (by rw [HCI.out]; exact hat4)
            have HNB := Lib.hid (show (Value.slice ph k qh).ownBlock ≠ some gb from fun e => HNK.out ⟨i, hi9, by rw [HCI.out]; exact e⟩)
            have HNB2 := Lib.hid (show ¬ Blk (cs.set i (.slice (some ⟨g4, 0, none⟩) (k + 1) cap4)) m gb from blk_set HNK.out HCL.out hi9 (fun e => by
              rcases hat4 with h8 | h8
              · rw [h8] at e; exact HNB.out e
              · rw [h8] at e; simp at e; omega))
            have HGC4 := Lib.hid (fun j (hj9 : j < m) => (World.cell?_of_block ((hgrow4.block gb (by omega) (fun e => HNB.out e.symm)).trans (HB3.out.block gb (by omega)))).trans (HGC.out j hj9))
            have HB4 := Lib.hid (show Below wb1.heap.size wb1 v4 from (HBd.out.trans (HB3.out.mono hszd)).grown hgrow4 (by omega) (fun g e => by have := HRW.out.lt g e; omega))
            have hs4 := hgrow4.size
            rw [HCI.out] at hcf
            replace hch := hcf.1
            have hfh := hcf.2
            replace hcg := HGC4.out i hi9
            rw [HGZ.out] at hcg
            rw [HRR.out] at hput
            have HP4 := Lib.hid hput
            clear hown4 hgrow4 hat4 hro hcf hput
            refine hK.out _ _ ?_ (fun hHeld => ?_)
            · exact hcg
            clear hK K
            try simp only [List.getElem_toArray, List.getElem_cons_succ, List.getElem_cons_zero, Act.put, List.setIfInBounds_toArray, List.set_cons_zero, List.set_cons_succ]
            refine wpAnyH_take (i := 12) (v := ?_) rfl (by kernel_rfl) (by kernel_rfl) (by kernel_rfl) (fun _ _ _ h => h) (Or.inl ⟨by rfl, ?_⟩) (by assumption) ?_
            rotate_left
            · intro w9 hSw; (try dsimp only at hSw); go_simp; try with_reducible rfl
            try simp only [List.getElem_toArray, List.getElem_cons_succ, List.getElem_cons_zero, Act.put, List.setIfInBounds_toArray, List.set_cons_zero, List.set_cons_succ]
            refine wpAnyH_ready (rs := [13]) (by kernel_rfl) (by simp) ?_
            refine AllReadyH.cons rfl (fun K hK => ?_) AllReadyH.nil
            clear hHeld
            go_simp
            have HB5 := Lib.hid (HB4.out.setCell (p := ⟨g0, i, none⟩) (by show wb1.heap.size ≤ g0; omega) (.slice (some ⟨g4, 0, none⟩) (k + 1) cap4))
            have HGC5 := Lib.hid (fun j (hj9 : j < m) => (show (v4.setCell ⟨g0, i, none⟩ (.slice (some ⟨g4, 0, none⟩) (k + 1) cap4)).cell? ⟨gb, go + j, none⟩ = some (.int .i64 ((G k).getD j 0)) from (World.cell?_of_block (Below.heap_setCell _ _ _ _ (show gb ≠ g0 from hgne))).trans (HGC4.out j hj9)))
            have hsz5 : v4.heap.size ≤ (v4.setCell ⟨g0, i, none⟩ (.slice (some ⟨g4, 0, none⟩) (k + 1) cap4)).heap.size := by rw [size_set]; exact Nat.le_refl _
            generalize hw5 : (v4.setCell ⟨g0, i, none⟩ (.slice (some ⟨g4, 0, none⟩) (k + 1) cap4)) = v5 at *
            clear hw5
            replace hcg := HGC5.out i hi9
            rw [HGZ.out] at hcg
            refine hK.out _ _ ?_ (fun hHeld => ?_)
            · exact hcg
            clear hK K
            try simp only [List.getElem_toArray, List.getElem_cons_succ, List.getElem_cons_zero, Act.put, List.setIfInBounds_toArray, List.set_cons_zero, List.set_cons_succ]
            refine wpAnyH_done (by kernel_rfl) ?_ _
            refine NoPanic.normal ?_
            clear hHeld
            go_wp2_with fail
            go_roundw
            case rel => exact ⟨i + 1, cs.set i (.slice (some ⟨g4, 0, none⟩) (k + 1) cap4), by omega, by go_num, by rw [← HRS.out]; exact tabp.OwnC.widen HP4.out (by omega), HGC5.out, HNB2.out, HB5.out, by omega⟩
            case measure => simp [intOf]; omega
          refine AllReadyH.cons rfl (fun K hK => ?_) AllReadyH.nil
          clear hHeld
          go_simp
          have HB3 := Lib.hid (below_alloc wd (.cells #[.int .i64 z] 3))
          have hs3 := HB3.out.size
          have HZ0 := Lib.hid (cell_one_new wd (.int .i64 z) 3)
          have hl3 : wd.heap.size < (wd.alloc (.cells #[.int .i64 z] 3)).heap.size := by simp
          replace hch := cell_below HB3.out hch (by omega)
          replace hcg := cell_below HB3.out hcg (by omega)
          generalize hw3 : wd.alloc (.cells #[.int .i64 z] 3) = v3 at *
          clear hw3
          refine hK.out _ _ ?_ (fun hHeld => ?_)
          · exact hcg
          clear hK K
          try simp only [List.getElem_toArray, List.getElem_cons_succ, List.getElem_cons_zero, Act.put, List.setIfInBounds_toArray, List.set_cons_zero, List.set_cons_succ]
          refine wpAnyH_ready (rs := [5]) (by kernel_rfl) (by simp) ?_
          refine AllReadyH.cons rfl (fun K hK => ?_) AllReadyH.nil
          clear hHeld
          go_simp
          refine hK.out _ _ ?_ (fun hHeld => ?_)
          · exact hcg
          clear hK K
          try simp only [List.getElem_toArray, List.getElem_cons_succ, List.getElem_cons_zero, Act.put, List.setIfInBounds_toArray, List.set_cons_zero, List.set_cons_succ]
          refine wpAnyH_ready (rs := [11]) (by kernel_rfl) (by simp) ?_
          refine AllReadyH.cons rfl (fun K hK => ?_) AllReadyH.nil
          clear hHeld
          have hro := ownsRow_block (w' := v3) HRW.out (fun g hg => HB3.out.block g (HRW.out.lt g hg).2)
          refine step_append_any (by rfl) _ _ 22 (by rfl) wb1.heap.size 3 j0 (.int .i64 0) 1 8 Try.underlying22 hj hjz0 hjz1 hjz2 (by rfl) (by decide) (.slice ph k qh) k (rr.map (Value.int .i64)) (by rfl) hro ⟨wd.heap.size, 0, none⟩ 1 1 [.int .i64 z] (by rfl) (by rfl) HZ0.out (by simp [Value.oneCell']) (by unfold maxLen; omega) (by omega) (by omega) ?_
          intro un4 v4 hown4 hgrow4 hat4
          obtain ⟨g4, cap4, hv4⟩ := ownsRow_succ hown4
          subst hv4
          obtain ⟨hcf, hput⟩ := put_at (w := wd) (w1 := v3) (w2 := v4) (g0 := g0) (m := m) (b := z) (i := i) (c' := .slice (some ⟨g4, 0, none⟩) (k + 1) cap4) HOC.out HML.out hi9 HB3.out (by rw [HRR.out, HRN9.out]; exact hown4) (by rw [HCI.out]; exact hgrow4) (by rw [HCI.out]; exact hat4)
          have HNB := Lib.hid (show (Value.slice ph k qh).ownBlock ≠ some gb from fun e => HNK.out ⟨i, hi9, by rw [HCI.out]; exact e⟩)
          have HNB2 := Lib.hid (show ¬ Blk (cs.set i (.slice (some ⟨g4, 0, none⟩) (k + 1) cap4)) m gb from blk_set HNK.out HCL.out hi9 (fun e => by
            rcases hat4 with h8 | h8
            · rw [h8] at e; exact HNB.out e
            · rw [h8] at e; simp at e; omega))
          have HGC4 := Lib.hid (fun j (hj9 : j < m) => (World.cell?_of_block ((hgrow4.block gb (by omega) (fun e => HNB.out e.symm)).trans (HB3.out.block gb (by omega)))).trans (HGC.out j hj9))
          have HB4 := Lib.hid (show Below wb1.heap.size wb1 v4 from (HBd.out.trans (HB3.out.mono hszd)).grown hgrow4 (by omega) (fun g e => by have := HRW.out.lt g e; omega))
          have hs4 := hgrow4.size
          rw [HCI.out] at hcf
          replace hch := hcf.1
          have hfh := hcf.2
          replace hcg := HGC4.out i hi9
          rw [HGZ.out] at hcg
          rw [HRR.out] at hput
          have HP4 := Lib.hid hput
          clear hown4 hgrow4 hat4 hro hcf hput
          refine hK.out _ _ ?_ (fun hHeld => ?_)
          · exact hcg
          clear hK K
          try simp only [List.getElem_toArray, List.getElem_cons_succ, List.getElem_cons_zero, Act.put, List.setIfInBounds_toArray, List.set_cons_zero, List.set_cons_succ]
          refine wpAnyH_take (i := 12) (v := ?_) rfl (by kernel_rfl) (by kernel_rfl) (by kernel_rfl) (fun _ _ _ h => h) (Or.inl ⟨by rfl, ?_⟩) (by assumption) ?_
          rotate_left
          · intro w9 hSw; (try dsimp only at hSw); go_simp; try with_reducible rfl
          try simp only [List.getElem_toArray, List.getElem_cons_succ, List.getElem_cons_zero, Act.put, List.setIfInBounds_toArray, List.set_cons_zero, List.set_cons_succ]
          refine wpAnyH_ready (rs := [13]) (by kernel_rfl) (by simp) ?_
          refine AllReadyH.cons rfl (fun K hK => ?_) AllReadyH.nil
          clear hHeld
          go_simp
          have HB5 := Lib.hid (HB4.out.setCell (p := ⟨g0, i, none⟩) (by show wb1.heap.size ≤ g0; omega) (.slice (some ⟨g4, 0, none⟩) (k + 1) cap4))
          have HGC5 := Lib.hid (fun j (hj9 : j < m) => (show (v4.setCell ⟨g0, i, none⟩ (.slice (some ⟨g4, 0, none⟩) (k + 1) cap4)).cell? ⟨gb, go + j, none⟩ = some (.int .i64 ((G k).getD j 0)) from (World.cell?_of_block (Below.heap_setCell _ _ _ _ (show gb ≠ g0 from hgne))).trans (HGC4.out j hj9)))
          have hsz5 : v4.heap.size ≤ (v4.setCell ⟨g0, i, none⟩ (.slice (some ⟨g4, 0, none⟩) (k + 1) cap4)).heap.size := by rw [size_set]; exact Nat.le_refl _
          generalize hw5 : (v4.setCell ⟨g0, i, none⟩ (.slice (some ⟨g4, 0, none⟩) (k + 1) cap4)) = v5 at *
          clear hw5
          replace hcg := HGC5.out i hi9
          rw [HGZ.out] at hcg
          refine hK.out _ _ ?_ (fun hHeld => ?_)
          · exact hcg
          clear hK K
          try simp only [List.getElem_toArray, List.getElem_cons_succ, List.getElem_cons_zero, Act.put, List.setIfInBounds_toArray, List.set_cons_zero, List.set_cons_succ]
          refine wpAnyH_done (by kernel_rfl) ?_ _
          refine NoPanic.normal ?_
          clear hHeld
          go_wp2_with fail
          go_roundw
          case rel => exact ⟨i + 1, cs.set i (.slice (some ⟨g4, 0, none⟩) (k + 1) cap4), by omega, by go_num, by rw [← HRS.out]; exact tabp.OwnC.widen HP4.out (by omega), HGC5.out, HNB2.out, HB5.out, by omega⟩
          case measure => simp [intOf]; omega
        · obtain rfl : i = m := by omega
          rw [rowsAt_next] at hoc
          have HOCn := Lib.hid hoc
          have HBn := Lib.hid hbel9
          clear hoc hgc hnk hbel9
          go_wp2_with fail
          go_roundw
          case rel => exact ⟨k + 1, cs, by omega, by go_num, HOCn.out, HBn.out⟩
          case measure => simp [intOf]; omega
    · obtain rfl : k = N := by omega
      have i1 : decide ((k : Int) < (k : Int)) = false := by simp
      have HF := Lib.hid (show MadeG (rowsAt G m k 0) w (.returned (.slice (some ⟨g0, 0, none⟩) m m)) wr from by
        refine ⟨_, rfl, OwnG.mono ⟨cs0, HOC0.out⟩ (by omega) (Nat.le_refl _), HBl.out⟩)
      clear HOC0
      go_wp2_with fail
      go_ret
      exact HF.out
end Go.Proofs.Ytoephhhofkmgjab.tabs9

namespace Go.Proofs.Ytoephhhofkmgjab.tabi9
open Go.RowKit own pp nums planes netp netb givep tabp gives own1 givei evali tabs9
set_option linter.unusedVariables false
set_option linter.unusedSimpArgs false

theorem emptyG (w : World) : OwnG w.heap.size (w.heap.size + 1) (w.alloc (.cells #[] 22)) (.slice (some ⟨w.heap.size, 0, none⟩) 0 0) [] :=
  ⟨[], World.ownsRow_made (base := w.heap.size) (e := 22) (size := 1) w #[] 0 (Nat.le_refl _) (by unfold maxLen; omega) rfl, fun g hg => by simp [Value.ownBlock] at hg; omega, RowsOf.nil _ _ _⟩
theorem ret_emptyG {W w1 : World} (h : Below W.heap.size W w1) : RetGB [] false W (.returned (.tuple #[.slice (some ⟨w1.heap.size, 0, none⟩) 0 0, .bool false])) (w1.alloc (.cells #[] 22)) :=
  ⟨_, rfl, (emptyG w1).mono h.size (by simp), h.alloc h.size _⟩
set_option maxRecDepth 100000 in
set_option maxHeartbeats 1600000 in
theorem impl_tab_no (a : Option Addr) (ls : List (List (List Int × Int))) (c : Nat) (n : Int) (w : World) (hr : ReadsL w a ls) (hn : ls.length ≤ 1048576) (hm : ∀ x ∈ ls, x.length ≤ 1048576 ∧ ∀ y ∈ x, y.1.length ≤ 1048576) (hk : netB n ls = false) :
    Calls Try.prog 56 #[.agg #[.int .i64 n, .slice a ls.length c]] w (RetGB [] false w) := by
  have Hhr := Lib.hid hr
  have Hhm := Lib.hid hm
  clear hr hm
  have HK := Lib.hid hk
  clear hk
  go_enter Try.func56, Try.ntmps56
  obtain ⟨wb1, hw1⟩ : ∃ wb1 : World, wb1 = w.alloc (.cells #[.int .i64 n, .slice a ls.length c] 36) := ⟨_, rfl⟩
  have z1 : wb1.heap.size = w.heap.size + 1 := by rw [hw1]; simp
  have x0_0 := (by rw [hw1]; exact cell_new _ _ _ rfl rfl : wb1.cell? ⟨w.heap.size, 0, none⟩ = some (.int .i64 n))
  have x0_1 := (by rw [hw1]; exact cell_new _ _ _ rfl rfl : wb1.cell? ⟨w.heap.size, 1, none⟩ = some (.slice a ls.length c))
  have HB0 := Lib.hid (show Below w.heap.size w wb1 by rw [hw1]; exact (Below.refl w.heap.size w).alloc (Nat.le_refl _) _)
  have s1 : w.heap.size + 1 ≤ wb1.heap.size := by omega
  have HZ1 := Lib.hid z1
  clear z1
  go_wp2_with fail
  rw [← hw1]
  clear hw1
  refine (impl_net a ls c n wb1 (Hhr.out.below HB0.out) hn Hhm.out false HK).mono ?_
  rintro e w2 ⟨rfl, hb⟩
  replace x0_0 := cell_below hb x0_0 (by omega)
  replace x0_1 := cell_below hb x0_1 (by omega)
  have s2 : w.heap.size + 1 ≤ w2.heap.size := by have := hb.size; omega
  have HB2 := Lib.hid (HB0.out.trans (hb.mono (by omega)))
  clear hb
  go_wp2_with fail
  go_ret2
  exact ret_emptyG HB2.out
set_option maxRecDepth 100000 in
set_option maxHeartbeats 1600000 in
theorem impl_tab_yes (a : Option Addr) (ls : List (List (List Int × Int))) (c : Nat) (nz : Int) (w : World) (hr : ReadsL w a ls) (hn : ls.length ≤ 1048576) (hm : ∀ x ∈ ls, x.length ≤ 1048576 ∧ ∀ y ∈ x, y.1.length ≤ 1048576) (hk : netB nz ls = true) :
    Calls Try.prog 56 #[.agg #[.int .i64 nz, .slice a ls.length c]] w (RetGB (tabs nz.toNat ls) true w) := by
  have Hhr := Lib.hid hr
  have Hhm := Lib.hid hm
  clear hr hm
  obtain ⟨i0, hi, hz0, hz1, hz2⟩ := info_parts infoSl
  obtain ⟨j0, hj, hjz0, hjz1, hjz2⟩ := info_parts mk.infoInt
  obtain ⟨n, rfl⟩ : ∃ N : Nat, nz = (N : Int) := ⟨nz.toNat, by have := (netB_iff _ _).1 hk; omega⟩
  rw [show (n : Int).toNat = n from rfl]
  have HK := Lib.hid hk
  have hl6 := net_len hk
  have hn14 : 1 ≤ n ∧ n ≤ 4 := by have := (netB_iff _ _).1 hk; omega
  have hm14 := net_lay hk (ls.length - 1) (by omega)
  have HGL := Lib.hid (fun p => gvs_length hk p)
  have hpw := mk.pow4 hn14.2
  have HPW := Lib.hid (show ((2 : Int) ^ n) = ((2 ^ n : Nat) : Int) from by simp)
  have HTB := Lib.hid (show tabs n ls = rowsAt (gvs n ls) (outs ls) (2 ^ n) 0 from rfl)
  have HBT := Lib.hid (fun (p : Nat) (W : World) (hp : p < 2 ^ n) => bitw.impl_bits n p W hn14.2 (by omega))
  have HRN := Lib.hid (fun (p : Nat) (W : World) (q4 : Option Addr) (pb : Option Addr) (qb : Nat) (hp : p < 2 ^ n) (hst : Stg W ls.reverse q4) (hrb : ints.Reads .i64 W pb (bitw.bitsTo p n)) => (show Calls Try.prog 96 #[.pointer q4, .slice pb (bitw.bitsTo p n).length qb] W (intfns.Made (gvs n ls p) W) from by
    have hA := all_of (xs := bitw.bitsTo p n) hk (by rw [bitw.bitsTo_length]) ls.length (Nat.le_refl _)
    have hR := runR_to ls (bitw.bitsTo p n) ls.length (Nat.le_refl _)
    rw [List.take_length] at hA hR
    refine (gives_any ls.reverse q4 pb (bitw.bitsTo p n) qb W hrb hst hA (by rw [bitw.bitsTo_length]; exact hn14.2) (bits_numsB p n)).mono ?_
    rintro e w' ⟨p5, q5, rfl, _, ho5, hb5⟩
    have ho5 := ho5 (by intro e9; have e8 := congrArg List.length e9; rw [List.length_reverse] at e8; simp at e8; rw [e8] at hl6; simp at hl6)
    rw [hR] at ho5 ⊢
    exact ⟨_, rfl, ho5, hb5⟩))
  obtain ⟨K, hK⟩ : ∃ K, ls.length = K + 1 := ⟨ls.length - 1, by omega⟩
  have HOU := Lib.hid (show (ls.getD K []).length = outs ls by unfold outs; rw [hK]; rfl)
  have HRV := Lib.hid (show ls.reverse = ls.getD K [] :: (ls.take K).reverse by
    have h9 := take_snocL ls K (by omega)
    rw [← hK, List.take_length] at h9
    calc ls.reverse = (ls.take K ++ [ls.getD K []]).reverse := by rw [← h9]
      _ = _ := by rw [List.reverse_append]; rfl)
  rw [show ls.length - 1 = K by omega, HOU.out] at hm14
  rw [HTB.out]
  clear HTB hk hK
  generalize hGG : gvs n ls = G at *
  generalize houts : outs ls = m at *
  obtain ⟨N, hN⟩ : ∃ N : Nat, 2 ^ n = N := ⟨_, rfl⟩
  rw [hN] at hpw HPW HBT HRN ⊢
  clear hN hGG houts
  go_enter Try.func56, Try.ntmps56
  obtain ⟨wb1, hw1⟩ : ∃ wb1 : World, wb1 = w.alloc (.cells #[.int .i64 n, .slice a ls.length c] 36) := ⟨_, rfl⟩
  have z1 : wb1.heap.size = w.heap.size + 1 := by rw [hw1]; simp
  have x0_0 := (by rw [hw1]; exact cell_new _ _ _ rfl rfl : wb1.cell? ⟨w.heap.size, 0, none⟩ = some (.int .i64 n))
  have x0_1 := (by rw [hw1]; exact cell_new _ _ _ rfl rfl : wb1.cell? ⟨w.heap.size, 1, none⟩ = some (.slice a ls.length c))
  have HB0 := Lib.hid (show Below w.heap.size w wb1 by rw [hw1]; exact (Below.refl w.heap.size w).alloc (Nat.le_refl _) _)
  have s1 : w.heap.size + 1 ≤ wb1.heap.size := by omega
  have HZ1 := Lib.hid z1
  clear z1
  go_wp2_with fail
  rw [← hw1]
  clear hw1
  refine (impl_net a ls c n wb1 (Hhr.out.below HB0.out) hn Hhm.out true HK).mono ?_
  rintro e w2 ⟨rfl, hb⟩
  replace x0_0 := cell_below hb x0_0 (by omega)
  replace x0_1 := cell_below hb x0_1 (by omega)
  have s2 : w.heap.size + 1 ≤ w2.heap.size := by have := hb.size; omega
  have HB2 := Lib.hid (HB0.out.trans (hb.mono (by omega)))
  clear hb
  go_wp2_with fail
  refine (last_any a ls c n w2 (Hhr.out.below HB2.out) hn).mono ?_
  rintro e w4 ⟨p4, rfl, hst, hb4⟩
  replace x0_0 := cell_below hb4 x0_0 (by omega)
  replace x0_1 := cell_below hb4 x0_1 (by omega)
  have HB4w := Lib.hid (HB2.out.trans (hb4.mono (by omega)))
  have s4w := hb4.size
  have HST := Lib.hid hst
  have hst2 := hst
  rw [HRV.out] at hst2
  obtain ⟨gs, q5, a5, c5, rfl, hgs, hcs0, hcs1, _, _⟩ := hst2
  rw [HOU.out] at hcs1
  clear hst hb4
  go_wp2_with (refine wpList_make_full _ rfl _ _ 28 rfl w4.heap.size 22 i0 (.slice none 0 0) 1 Try.underlying28 hi hz0 hz1 .i64 .i64 _ _ m rfl rfl rfl rfl (by rw [hz2]; omega) (by unfold maxLen; omega) (Nat.le_refl _) ?_; intro w1 hown1 hgrow1; refine Hid.out ?_)
  refine Lib.hid ?_
  obtain ⟨g0, hg0⟩ : ∃ g0, g0 = w4.heap.size := ⟨_, rfl⟩
  have hb1 : Below w4.heap.size w4 w1 := (Below.refl _ _).grown hgrow1 (Nat.le_refl _) (by simp)
  rw [show (Value.slice none 0 0).cells = #[Value.slice none 0 0] from rfl, Nat.mul_one, toList_madeCells_one] at hown1
  have hoc0 : OwnC w4.heap.size w1.heap.size w1 (.slice (some ⟨g0, 0, none⟩) m m) (rowsAt G m 0 0) (List.replicate m (.slice none 0 0)) := by rw [rowsAt_zero, hg0]; exact rows_empty hown1
  rw [← hg0]
  have hgw : w4.heap.size ≤ g0 := by omega
  have HOC00 := Lib.hid hoc0
  have HB1 := Lib.hid hb1
  have X00 := Lib.hid x0_0
  replace x0_0 := cell_below hb1 x0_0 (by omega)
  replace x0_1 := cell_below hb1 x0_1 (by omega)
  have hsh : (2 : Int) ^ n = (N : Int) := HPW.out
  have hmin : min n 64 = n := by omega
  have hN8 : (N : Int) ≤ 16 := by omega
  clear hown1 hgrow1 hoc0 hb1 hg0
  go_wp2_with fail
  clear hsh hmin hN8 x0_0 x0_1
  go_loopw [24] (fun zz wr => ∃ (k : Nat) (cs : List Value), k ≤ N ∧ zz = .int .i64 k ∧ OwnC w4.heap.size wr.heap.size wr (.slice (some ⟨g0, 0, none⟩) m m) (rowsAt G m k 0) cs ∧ Below w4.heap.size w4 wr) (fun zz _ => N - (intOf zz).toNat)
  case atStart => exact ⟨0, _, by omega, rfl, HOC00.out, HB1.out⟩
  case round =>
    obtain ⟨k, cs0, hk, rfl, hoc, hbel⟩ := hrel
    have hsz := hbel.size
    have hgl := hoc.1.lt g0 rfl
    have x0_0 := cell_below hbel X00.out (by omega)
    have HSTr := Lib.hid (HST.out.below hbel)
    have HBl := Lib.hid (HB4w.out.trans (hbel.mono (by omega)))
    have HBw := Lib.hid hbel
    have HOC0 := Lib.hid hoc
    clear hbel hoc
    by_cases hkN : k < N
    · have i1 : decide ((k : Int) < (N : Int)) = true := by simp; omega
      go_wp2_with fail
      refine (HBT.out k wr hkN).mono ?_
      rintro e v1 ⟨vb, rfl, hob, hb1⟩
      obtain ⟨pb, qb, rfl, _, _, _⟩ := hob.slice
      have hs1 := hb1.size
      have HC1 := Lib.hid hb1
      have HOB := Lib.hid hob
      replace x0_0 := cell_below hb1 x0_0 (by omega)
      clear hob hb1
      go_wp2_with fail
      refine (HRN.out k v1 (some ⟨gs, 0, none⟩) pb qb hkN (HSTr.out.below HC1.out) HOB.out.reads).mono ?_
      rintro e v2 ⟨vg, rfl, hog, hb2⟩
      have HC2 := Lib.hid (HC1.out.trans (hb2.mono hs1))
      have hs2 := hb2.size
      replace x0_0 := cell_below hb2 x0_0 (by omega)
      obtain ⟨pg, qg, rfl, hrg, _, _⟩ := hog.slice
      obtain ⟨gb, go, hpg, hgbs, hgc⟩ := own1.reads_pos hrg (by rw [HGL.out]; omega)
      subst hpg
      have hgb1 := (hog.lt (g := gb) rfl).1
      rw [HGL.out] at hgc ⊢
      have HGC := Lib.hid hgc
      clear hog hb2 hrg hgc HOB
      have HC2w := Lib.hid (HBw.out.trans (HC2.out.mono hsz))
      have HOC1 := Lib.hid (tabp.OwnC.widen (hi' := v2.heap.size) (tabp.OwnC.belowC HOC0.out HC2.out) (by omega))
      have hgne : gb ≠ g0 := by omega
      have hnk0 : ¬ Blk cs0 m gb := fun hbk => by
        have h9 := HOC0.out.blk (g := gb) (by rw [rowsAt_length]; exact hbk)
        omega
      have HNK0 := Lib.hid hnk0
      clear hnk0 HOC0 HC1
      go_wp2_with fail
      go_loopw [34] (fun zz wr => ∃ (i : Nat) (cs : List Value), i ≤ m ∧ zz = .int .i64 i ∧ OwnC w4.heap.size wr.heap.size wr (.slice (some ⟨g0, 0, none⟩) m m) (rowsAt G m k i) cs ∧ (∀ j, j < m → wr.cell? ⟨gb, go + j, none⟩ = some (.int .i64 ((G k).getD j 0))) ∧ ¬ Blk cs m gb ∧ Below w4.heap.size w4 wr ∧ v2.heap.size ≤ wr.heap.size) (fun zz _ => m - (intOf zz).toNat)
      case atStart => exact ⟨0, _, by omega, rfl, HOC1.out, HGC.out, HNK0.out, HC2w.out, Nat.le_refl _⟩
      case round =>
        obtain ⟨i, cs, hi9', rfl, hoc, hgc, hnk, hbel9, hv2s⟩ := hrel
        clear HOC1 HGC HNK0 x0_0
        by_cases hi9 : i < m
        · skip
          have HML := Lib.hid (rowsAt_length G m k i)
          have HCL := Lib.hid (show cs.length = m by have := hoc.2.2.1; rw [rowsAt_length] at this; exact this)
          have hrow9 := hoc.2.2.2.1 i (by rw [rowsAt_length]; exact hi9)
          obtain ⟨ph, qh, hci, _, _, _⟩ := hrow9.slice
          have hrl : ((rowsAt G m k i).getD i []).length = k := by rw [rowsAt_getD _ _ _ _ _ hi9, if_neg (by omega), col_len]
          have hown9 := hoc.1
          rw [rowsAt_length] at hown9
          have hch := hown9.cellAt i (by omega)
          have hcc : cs[i]? = some (cs.getD i undef) := by rw [List.getD_eq_getElem?_getD, List.getElem?_eq_getElem (by have := HCL.out; omega)]; rfl
          rw [hcc, hci] at hch
          rw [hci] at hrow9
          have HRW0 := Lib.hid hrow9.1
          have HCI := Lib.hid hci
          have HRS := Lib.hid (rowsAt_set G m k i hi9)
          have HGC := Lib.hid hgc
          have hcg := hgc i hi9
          have HNK := Lib.hid hnk
          have HOC0 := Lib.hid hoc
          have hgl9 := hown9.lt g0 rfl
          have HGZ0 := Lib.hid (show (G k).getD i 0 = (G k).getD i 0 from rfl)
          have HBl9 := Lib.hid hbel9
          have i1 : (0 : Int) ≤ (i : Int) := by omega
          have i2 : (i : Int) < (m : Int) := by omega
          clear hoc hgc hnk hrow9 hci hcc hbel9 HGZ0 hown9
          obtain ⟨z, hz9⟩ : ∃ z, (G k).getD i 0 = z := ⟨_, rfl⟩
          rw [hz9] at hcg HRS
          have HGZ := Lib.hid hz9
          obtain ⟨rr, hrr⟩ : ∃ rr, (rowsAt G m k i).getD i [] = rr := ⟨_, rfl⟩
          rw [hrr] at hrl hch HCI HRW0 HRS
          have HRR := Lib.hid hrr
          rw [hrl] at hch HCI HRW0
          have HRN9 := Lib.hid hrl
          clear hz9 hrr hrl
          obtain ⟨wd, hwd⟩ : ∃ wd : World, wd = wr := ⟨_, rfl⟩
          rw [← hwd] at hch hcg HRW0 HOC0 HGC HBl9 hgl9 hv2s
          rw [← hwd]
          clear hwd
          have HRW := HRW0
          have HOC := HOC0
          have HBd := HBl9
          have hszd := HBd.out.size
          have hgd := hgl9.2
          have hv2d := hv2s
          have HB3 := Lib.hid (below_alloc wd (.cells #[.int .i64 z] 3))
          have hs3 := HB3.out.size
          have hl3 : wd.heap.size < (wd.alloc (.cells #[.int .i64 z] 3)).heap.size := by simp
          go_wp2_with (at_builtin; refine wpList_append_own_at _ rfl _ _ 22 rfl w4.heap.size 3 j0 (.int .i64 0) 1 8 Try.underlying22 hj hjz0 hjz1 hjz2 rfl (by decide) _ _ _ rfl (HRW.out.alloc _) ⟨wd.heap.size, 0, none⟩ 1 1 [.int .i64 z] rfl rfl (cell_one_new _ _ _) (by simp [Value.oneCell']) (by unfold maxLen; omega) (by omega) (by simp; omega) ?_; intro un4 v4 hown4 hgrow4 _ hat4; refine Hid.out ?_)
          have HRWl := Lib.hid HRW.out.lt
          generalize hw3 : wd.alloc (.cells #[.int .i64 z] 3) = v3 at *
          clear hw3
          obtain ⟨g4, cap4, hv4⟩ := ownsRow_succ hown4
          subst hv4
          have hro : True := trivial
          obtain ⟨hcf, hput⟩ := put_at (w := wd) (w1 := v3) (w2 := v4) (g0 := g0) (m := m) (b := z) (i := i) (c' := .slice (some ⟨g4, 0, none⟩) (k + 1) cap4) HOC.out HML.out hi9 HB3.out (by rw [HRR.out, HRN9.out]; exact hown4) (by rw [HCI.out]; exact hgrow4) (by rw [HCI.out]; exact hat4)
          have HNB := Lib.hid (show (Value.slice ph k qh).ownBlock ≠ some gb from fun e => HNK.out ⟨i, hi9, by rw [HCI.out]; exact e⟩)
          have HNB2 := Lib.hid (show ¬ Blk (cs.set i (.slice (some ⟨g4, 0, none⟩) (k + 1) cap4)) m gb from blk_set HNK.out HCL.out hi9 (fun e => by
            rcases hat4 with h8 | h8
            · rw [h8] at e; exact HNB.out e
            · rw [h8] at e; simp at e; omega))
          have HGC4 := Lib.hid (fun j (hj9 : j < m) => (World.cell?_of_block ((hgrow4.block gb (by omega) (fun e => HNB.out e.symm)).trans (HB3.out.block gb (by omega)))).trans (HGC.out j hj9))
          have HB4 := Lib.hid (show Below w4.heap.size w4 v4 from (HBd.out.trans (HB3.out.mono hszd)).grown hgrow4 (by omega) (fun g e => by have := HRW.out.lt g e; omega))
          have hs4 := hgrow4.size
          rw [HCI.out] at hcf
          replace hch := hcf.1
          have hfh := hcf.2
          replace hcg := HGC4.out i hi9
          rw [HGZ.out] at hcg
          rw [HRR.out] at hput
          have HP4 := Lib.hid hput
          clear hown4 hgrow4 hat4 hro hcf hput
          refine Lib.hid ?_
          go_wp2_with fail
          have HB5 := Lib.hid (HB4.out.setCell (p := ⟨g0, i, none⟩) (by show w4.heap.size ≤ g0; omega) (.slice (some ⟨g4, 0, none⟩) (k + 1) cap4))
          have HGC5 := Lib.hid (fun j (hj9 : j < m) => (show (v4.setCell ⟨g0, i, none⟩ (.slice (some ⟨g4, 0, none⟩) (k + 1) cap4)).cell? ⟨gb, go + j, none⟩ = some (.int .i64 ((G k).getD j 0)) from (World.cell?_of_block (Below.heap_setCell _ _ _ _ (show gb ≠ g0 from hgne))).trans (HGC4.out j hj9)))
          have hsz5 : v4.heap.size ≤ (v4.setCell ⟨g0, i, none⟩ (.slice (some ⟨g4, 0, none⟩) (k + 1) cap4)).heap.size := by rw [size_set]; exact Nat.le_refl _
          generalize hw5 : (v4.setCell ⟨g0, i, none⟩ (.slice (some ⟨g4, 0, none⟩) (k + 1) cap4)) = v5 at *
          clear hw5
          replace hcg := HGC5.out i hi9
          rw [HGZ.out] at hcg
          go_roundw
          case rel => exact ⟨i + 1, cs.set i (.slice (some ⟨g4, 0, none⟩) (k + 1) cap4), by omega, by go_num, by rw [← HRS.out]; exact tabp.OwnC.widen HP4.out (by omega), HGC5.out, HNB2.out, HB5.out, by omega⟩
          case measure => simp [intOf]; omega
        · obtain rfl : i = m := by omega
          rw [rowsAt_next] at hoc
          have HOCn := Lib.hid hoc
          have HBn := Lib.hid hbel9
          clear hoc hgc hnk hbel9
          go_wp2_with fail
          go_roundw
          case rel => exact ⟨k + 1, cs, by omega, by go_num, HOCn.out, HBn.out⟩
          case measure => simp [intOf]; omega
    · obtain rfl : k = N := by omega
      have i1 : decide ((k : Int) < (k : Int)) = false := by simp
      have HF := Lib.hid (show RetGB (rowsAt G m k 0) true w (.returned (.tuple #[.slice (some ⟨g0, 0, none⟩) m m, .bool true])) wr from by
        refine ⟨_, rfl, OwnG.mono ⟨cs0, HOC0.out⟩ (by omega) (Nat.le_refl _), HBl.out⟩)
      clear HOC0
      go_wp2_with fail
      go_ret2
      exact HF.out
end Go.Proofs.Ytoephhhofkmgjab.tabi9
