/- Several texts in one. -/
import Derived.BigQuiet
import Derived.Deep.DrawnRows
import Derived.Deep.RegionHeld3
import Derived.Test.YthohnnobahcdpaaBrG37
import Derived.Test.YthohnnobahcdpaaBrG30
import Derived.Test.YthohnnobahcdpaaSamplesT
namespace Go.Proofs.Ythohnnobahcdpaa.stms
open Go.RowKit own pp nums bndp bndi stmp stmo concj margin puti samplesv samplest
set_option linter.unusedVariables false
set_option linter.unusedSimpArgs false

theorem vals_at (rows : List (List Int)) (pl : Nat) (wt : Int) (m : Nat) (h : m < rows.length) : (valsL rows pl wt rows.length).getD m 0 = wt * (rows.getD m []).getD pl 0 := by
  unfold valsL
  rw [List.take_length, List.getD_eq_getElem?_getD, List.getElem?_map, List.getD_eq_getElem?_getD (l := rows), List.getElem?_eq_getElem h]
  rfl
set_option maxRecDepth 100000 in
set_option maxHeartbeats 1600000 in
theorem spec_unit (n pl : Nat) (wt : Int) (w : World) (h4 : n ≤ 4) (hpl : pl < n) :
    Calls Try.prog 111 #[.int .i64 n, .int .i64 pl, .int .i64 wt] w (intfns.Made (unitL n pl wt) w) := by
  obtain ⟨i0, hi, hz0, hz1, hz2⟩ := info_parts mk.infoInt
  have o1 : (0 : Int) ≤ (n : Int) := by omega
  have o2 : (n : Int) ≤ 4 := by omega
  have o3 : (pl : Int) < (n : Int) := by omega
  have o4 : (0 : Int) ≤ (pl : Int) := by omega
  go_enter Try.func111, Try.ntmps111
  go_wp2_with (refine wpList_make_full _ rfl _ _ 22 rfl w.heap.size 3 i0 (.int .i64 0) 1 Try.underlying22 hi hz0 hz1 .i64 .i64 _ _ n rfl rfl rfl rfl (by rw [hz2]; omega) (by unfold maxLen; omega) (Nat.le_refl _) ?_; intro w1 hown1 hgrow1; refine Hid.out ?_)
  refine Lib.hid ?_
  have hb1 : Below w.heap.size w w1 := (Below.refl _ _).grown hgrow1 (Nat.le_refl _) (by simp)
  rw [show (Value.int .i64 0).cells = #[Value.int .i64 0] from rfl, Nat.mul_one, toList_madeCells_one] at hown1
  have hcell : w1.cell? ⟨w.heap.size, pl, none⟩ = some (.int .i64 0) := by rw [hown1.cellAt pl (by omega), List.getElem?_replicate, if_pos hpl]
  have hfro := hown1.frozenAt pl
  have hst := (hown1.stored pl (.int .i64 wt)).1
  rw [zero_unit] at hst
  have HF := Lib.hid (show intfns.Made (unitL n pl wt) w (.returned (.slice (some ⟨w.heap.size, 0, none⟩) n n)) (w1.setCell ⟨w.heap.size, pl, none⟩ (.int .i64 wt)) from ⟨_, rfl, ⟨by rw [unit_length]; exact hst, fun g hg => (hst.lt g hg).2⟩, hb1.setCell (Nat.le_refl _) _⟩)
  clear hown1 hgrow1 hb1 hst
  go_wp2_with fail
  go_ret
  exact HF.out
set_option maxRecDepth 100000 in
set_option maxHeartbeats 1600000 in
theorem spec_some (a : Option Addr) (rows : List (List Int)) (c : Nat) (a' : Option Addr) (zs : List Int) (c' : Nat) (w : World) (hr : grid.Reads w a rows) (hz : ints.Reads .i64 w a' zs) (hn : rows.length ≤ 1048576) (hk : zs.length ≤ 1048576) (hm : ∀ r ∈ rows, r.length ≤ 1048576) (ok : Bool) (h : Hid (hpB rows zs = ok)) :
    Calls Try.prog 66 #[.agg #[.slice a rows.length c, .slice a' zs.length c']] w (RetB ok w) := by
  have Hhr := Lib.hid hr
  have Hhz := Lib.hid hz
  have Hhm := Lib.hid hm
  clear hr hz hm
  cases hs : sampleB rows zs
  · have e9 : ok = false := by rw [← h.out]; unfold hpB; rw [hs]; rfl
    have HS := Lib.hid hs
    clear h hs
    subst e9
    go_enter Try.func66, Try.ntmps66
    obtain ⟨wb1, hw1⟩ : ∃ wb1 : World, wb1 = w.alloc (.cells #[.slice a rows.length c, .slice a' zs.length c'] 38) := ⟨_, rfl⟩
    have z1 : wb1.heap.size = w.heap.size + 1 := by rw [hw1]; simp
    have x0_0 := (by rw [hw1]; exact cell_new _ _ _ rfl rfl : wb1.cell? ⟨w.heap.size, 0, none⟩ = some (.slice a rows.length c))
    have x0_1 := (by rw [hw1]; exact cell_new _ _ _ rfl rfl : wb1.cell? ⟨w.heap.size, 1, none⟩ = some (.slice a' zs.length c'))
    have HB0 := Lib.hid (show Below w.heap.size w wb1 by rw [hw1]; exact (Below.refl w.heap.size w).alloc (Nat.le_refl _) _)
    have s1 : w.heap.size + 1 ≤ wb1.heap.size := by omega
    have HZ1 := Lib.hid z1
    clear z1
    go_wp2_with fail
    rw [← hw1]
    clear hw1
    refine (spec_sample a rows c a' zs c' _ (Hhr.out.below HB0.out) (Hhz.out.below HB0.out) hn hk Hhm.out false HS).mono ?_
    rintro e w2 ⟨rfl, hb⟩
    have HB2 := Lib.hid (HB0.out.trans (hb.mono (by omega)))
    clear hb
    go_wp2_with fail
    go_ret
    exact ⟨rfl, HB2.out⟩
  · have e9 : decide (0 < rows.length) = ok := by rw [← h.out]; unfold hpB; rw [hs, Bool.true_and]
    have HS := Lib.hid hs
    have HE := Lib.hid (fun (w' : World) (hb : Below w.heap.size w w') => (show RetB ok w (.returned (.bool (decide (0 < rows.length)))) w' from ⟨by rw [e9], hb⟩))
    clear h hs e9
    go_enter Try.func66, Try.ntmps66
    obtain ⟨wb1, hw1⟩ : ∃ wb1 : World, wb1 = w.alloc (.cells #[.slice a rows.length c, .slice a' zs.length c'] 38) := ⟨_, rfl⟩
    have z1 : wb1.heap.size = w.heap.size + 1 := by rw [hw1]; simp
    have x0_0 := (by rw [hw1]; exact cell_new _ _ _ rfl rfl : wb1.cell? ⟨w.heap.size, 0, none⟩ = some (.slice a rows.length c))
    have x0_1 := (by rw [hw1]; exact cell_new _ _ _ rfl rfl : wb1.cell? ⟨w.heap.size, 1, none⟩ = some (.slice a' zs.length c'))
    have HB0 := Lib.hid (show Below w.heap.size w wb1 by rw [hw1]; exact (Below.refl w.heap.size w).alloc (Nat.le_refl _) _)
    have s1 : w.heap.size + 1 ≤ wb1.heap.size := by omega
    have HZ1 := Lib.hid z1
    clear z1
    go_wp2_with fail
    rw [← hw1]
    clear hw1
    refine (spec_sample a rows c a' zs c' _ (Hhr.out.below HB0.out) (Hhz.out.below HB0.out) hn hk Hhm.out true HS).mono ?_
    rintro e w2 ⟨rfl, hb⟩
    have y0 := cell_below hb x0_0 (by omega)
    have HB2 := Lib.hid (HB0.out.trans (hb.mono (by omega)))
    clear hb x0_0
    go_wp2_with fail
    go_ret
    exact HE.out _ HB2.out
set_option maxRecDepth 100000 in
set_option maxHeartbeats 1600000 in
theorem spec_stumps (a : Option Addr) (rows : List (List Int)) (c : Nat) (a' : Option Addr) (zs : List Int) (c' : Nat) (w : World) (hr : grid.Reads w a rows) (hs9 : sampleB rows zs = true) (h0 : 0 < rows.length) :
    Calls Try.prog 67 #[.agg #[.slice a rows.length c, .slice a' zs.length c']] w (fun e w' => ∃ v, e = .returned v ∧ OwnJ w.heap.size w'.heap.size w' v (stumpL rows) ∧ Below w.heap.size w w') := by
  obtain ⟨i0, hi, hz0, hz1, hz2⟩ := info_parts mk.infoInt
  obtain ⟨j0, hj, hjz0, hjz1, hjz2⟩ := info_parts infoP
  have h16 := ((sampleB_iff _ _).1 hs9).1
  obtain ⟨n, hn9⟩ : ∃ n, (rows.getD 0 []).length = n := ⟨_, rfl⟩
  have HN := Lib.hid hn9
  have hrow := fun i hi => all_at _ [] rows ((sampleB_iff _ _).1 hs9).2.2.2 i hi
  have h4 : n ≤ 4 := by
    have := hrow 0 h0
    simp only [Bool.and_eq_true, decide_eq_true_eq] at this
    rw [← hn9]
    exact ((pointB_iff _).1 this.1).2.1
  have HPF := Lib.hid (show ∀ k, k < n → PlFit rows k from fun k hk i hi => by
    have := hrow i hi
    simp only [Bool.and_eq_true, decide_eq_true_eq] at this
    have hl : (rows.getD i []).length = n := by rw [← hn9]; exact this.2
    exact ⟨by omega, numsB_at ((pointB_iff _).1 this.1).2.2 k (by omega)⟩)
  have HSL := Lib.hid (show stumpL rows = stumpTo rows n n from by unfold stumpL; rw [hn9])
  have Hhr := Lib.hid hr
  clear hr
  clear hs9 hrow hn9
  have o0 : (0 : Int) < (rows.length : Int) := by omega
  have o5 : 0 < rows.length := h0
  go_enter Try.func67, Try.ntmps67
  obtain ⟨wb1, hw1⟩ : ∃ wb1 : World, wb1 = w.alloc (.cells #[.slice a rows.length c, .slice a' zs.length c'] 38) := ⟨_, rfl⟩
  have z1 : wb1.heap.size = w.heap.size + 1 := by rw [hw1]; simp
  have x0_0 := (by rw [hw1]; exact cell_new _ _ _ rfl rfl : wb1.cell? ⟨w.heap.size, 0, none⟩ = some (.slice a rows.length c))
  have x0_1 := (by rw [hw1]; exact cell_new _ _ _ rfl rfl : wb1.cell? ⟨w.heap.size, 1, none⟩ = some (.slice a' zs.length c'))
  have HB0 := Lib.hid (show Below w.heap.size w wb1 by rw [hw1]; exact (Below.refl w.heap.size w).alloc (Nat.le_refl _) _)
  have s1 : w.heap.size + 1 ≤ wb1.heap.size := by omega
  have HZ1 := Lib.hid z1
  clear z1
  go_wp2_with fail
  rw [← hw1]
  clear hw1
  obtain ⟨bl, off, rp, rq, hab, hbl, hc0, hpq, hrow⟩ := (Hhr.out.below HB0.out).at h0
  subst hab
  have XB0 := Lib.hid x0_0
  rw [Nat.add_zero, HN.out] at hc0
  clear hpq hrow
  refine wp_region_noPanic ?_
  refine wp_region_held_drew (S := fun w' => w'.cell? ⟨w.heap.size, 0, none⟩ = some (.slice (some ⟨bl, off, none⟩) rows.length c) ∧ w'.cell? ⟨bl, off, none⟩ = some (.slice rp n rq)) (by kernel_rfl) ?_ (fun hHeld => ?_)
  · exact ⟨x0_0, hc0⟩
  refine wpAnyH_take (i := 1) (v := ?_) rfl (by kernel_rfl) (by kernel_rfl) (by kernel_rfl) (fun _ _ _ h => h) (Or.inl ⟨by rfl, ?_⟩) (by assumption) ?_
  rotate_left
  · intro w9 hSw; (try dsimp only at hSw); go_simp; try with_reducible rfl
  try simp only [List.getElem_toArray, List.getElem_cons_succ, List.getElem_cons_zero, Act.put, List.setIfInBounds_toArray, List.set_cons_zero, List.set_cons_succ]
  refine wpAnyH_take (i := 2) (v := ?_) rfl (by kernel_rfl) (by kernel_rfl) (by kernel_rfl) (fun _ _ _ h => h) (Or.inl ⟨by rfl, ?_⟩) (by assumption) ?_
  rotate_left
  · intro w9 hSw; (try dsimp only at hSw); go_simp; try with_reducible rfl
  try simp only [List.getElem_toArray, List.getElem_cons_succ, List.getElem_cons_zero, Act.put, List.setIfInBounds_toArray, List.set_cons_zero, List.set_cons_succ]
  refine wpAnyH_take (i := 3) (v := ?_) rfl (by kernel_rfl) (by kernel_rfl) (by kernel_rfl) (fun _ _ _ h => h) (Or.inl ⟨by rfl, ?_⟩) (by assumption) ?_
  rotate_left
  · intro w9 hSw; (try dsimp only at hSw); go_simp; try with_reducible rfl
  try simp only [List.getElem_toArray, List.getElem_cons_succ, List.getElem_cons_zero, Act.put, List.setIfInBounds_toArray, List.set_cons_zero, List.set_cons_succ]
  refine wpAnyH_take (i := 4) (v := ?_) rfl (by kernel_rfl) (by kernel_rfl) (by kernel_rfl) (fun _ _ _ h => h) (Or.inl ⟨by rfl, ?_⟩) (by assumption) ?_
  rotate_left
  · intro w9 hSw; (try dsimp only at hSw); go_simp; try with_reducible rfl
  try simp only [List.getElem_toArray, List.getElem_cons_succ, List.getElem_cons_zero, Act.put, List.setIfInBounds_toArray, List.set_cons_zero, List.set_cons_succ]
  refine wpAnyH_take (i := 5) (v := ?_) rfl (by kernel_rfl) (by kernel_rfl) (by kernel_rfl) (fun _ _ _ h => h) (Or.inl ⟨by rfl, ?_⟩) (by assumption) ?_
  rotate_left
  · intro w9 hSw; (try dsimp only at hSw); go_simp; try with_reducible rfl
  try simp only [List.getElem_toArray, List.getElem_cons_succ, List.getElem_cons_zero, Act.put, List.setIfInBounds_toArray, List.set_cons_zero, List.set_cons_succ]
  refine wpAnyH_ready (rs := [0]) (by kernel_rfl) (by simp) ?_
  refine AllReadyH.cons rfl (fun K hK => ?_) AllReadyH.nil
  clear hHeld
  go_simp
  have HE := Lib.hid (show OwnK wb1.heap.size (wb1.heap.size + 1) (wb1.alloc (.cells #[] 27)).drew (.slice (some ⟨wb1.heap.size, 0, none⟩) 0 0) [] [] from emptyJ wb1)
  have hbe := (below_alloc wb1 (.cells #[] 27)).drew
  have hse : (wb1.alloc (.cells #[] 27)).drew.heap.size = wb1.heap.size + 1 := by rw [show (wb1.alloc (.cells #[] 27)).drew.heap.size = (wb1.alloc (.cells #[] 27)).heap.size from rfl, World.size_alloc]
  have m0 := cell_below hbe x0_0 (by omega)
  have m1 := cell_below hbe hc0 hbl
  have HBE := Lib.hid hbe
  generalize hwE : (wb1.alloc (.cells #[] 27)).drew = wE at *
  clear hbe hwE
  refine hK.out _ _ ?_ (fun hHeld => ?_)
  · exact ⟨m0, m1⟩
  clear hK K
  try simp only [List.getElem_toArray, List.getElem_cons_succ, List.getElem_cons_zero, Act.put, List.setIfInBounds_toArray, List.set_cons_zero, List.set_cons_succ]
  refine wpAnyH_take (i := 6) (v := ?_) rfl (by kernel_rfl) (by kernel_rfl) (by kernel_rfl) (fun _ _ _ h => h) (Or.inl ⟨by rfl, ?_⟩) (by assumption) ?_
  rotate_left
  · intro w9 hSw; (try dsimp only at hSw); go_simp; try with_reducible rfl
  try simp only [List.getElem_toArray, List.getElem_cons_succ, List.getElem_cons_zero, Act.put, List.setIfInBounds_toArray, List.set_cons_zero, List.set_cons_succ]
  refine wpAnyH_take (i := 7) (v := ?_) rfl (by kernel_rfl) (by kernel_rfl) (by kernel_rfl) (fun _ _ _ h => h) (Or.inl ⟨by rfl, ?_⟩) (by assumption) ?_
  rotate_left
  · intro w9 hSw; (try dsimp only at hSw); go_simp; try with_reducible rfl
  try simp only [List.getElem_toArray, List.getElem_cons_succ, List.getElem_cons_zero, Act.put, List.setIfInBounds_toArray, List.set_cons_zero, List.set_cons_succ]
  refine wpAnyH_done (by kernel_rfl) ?_ _
  refine NoPanic.normal ?_
  clear hHeld
  clear x0_0 hc0
  have XX0 := Lib.hid m0
  go_wp2_with fail
  go_loopw [3, 5] (fun v i wr => ∃ (k : Nat) (cs : List Value), k ≤ n ∧ i = .int .i64 k ∧ OwnK wb1.heap.size wr.heap.size wr v (stumpTo rows n k) cs ∧ Below wb1.heap.size wb1 wr ∧ wE.heap.size ≤ wr.heap.size) (fun _ i _ => n - (intOf i).toNat)
  case atStart => exact ⟨0, [], Nat.zero_le _, rfl, by (have := HE.out; rw [← hse] at this; exact this), HBE.out, Nat.le_refl _⟩
  case round =>
    obtain ⟨k, cs0, hk, rfl, hown, hbel, hEs⟩ := hrel
    by_cases hlt : k < n
    · obtain ⟨ps0, hps0⟩ : ∃ ps0, ps0 = stumpTo rows n k := ⟨_, rfl⟩
      have HPS0 := Lib.hid hps0
      rw [← hps0] at hown
      clear hps0
      have i1 : (0 : Int) ≤ (k : Int) := by omega
      have i2 : (k : Int) < (n : Int) := by omega
      have HOa := Lib.hid hown
      have HBa := Lib.hid hbel
      have hpl0 : ps0.length ≤ k * 34 := by rw [HPS0.out]; exact stumpTo_length rows n k h16
      clear hown hbel
      go_wp2_with fail
      go_loopw [3, 6] (fun v i wr => ∃ (j : Nat) (cs : List Value), j ≤ 2 ∧ i = .int .i64 (1 - 2 * (j : Int)) ∧ OwnK wb1.heap.size wr.heap.size wr v (ps0 ++ (if j = 0 then [] else if j = 1 then stAt n k 1 (bnds rows k 1) else stAt n k 1 (bnds rows k 1) ++ stAt n k (-1) (bnds rows k (-1)))) cs ∧ Below wb1.heap.size wb1 wr ∧ wE.heap.size ≤ wr.heap.size) (fun _ i _ => (intOf i + 3).toNat)
      case atStart => exact ⟨0, cs0, by omega, rfl, by simpa using HOa.out, HBa.out, hEs⟩
      case round =>
        obtain ⟨j, csj, hj2, rfl, hown, hbel, hEj⟩ := hrel
        by_cases hjt : j < 2
        · obtain ⟨wt, hwt⟩ : ∃ wt : Int, 1 - 2 * (j : Int) = wt := ⟨_, rfl⟩
          have hw1 : wt = 1 ∨ wt = -1 := by omega
          have HJN := Lib.hid (show ps0 ++ (if j + 1 = 0 then [] else if j + 1 = 1 then stAt n k 1 (bnds rows k 1) else stAt n k 1 (bnds rows k 1) ++ stAt n k (-1) (bnds rows k (-1))) = (ps0 ++ (if j = 0 then [] else if j = 1 then stAt n k 1 (bnds rows k 1) else stAt n k 1 (bnds rows k 1) ++ stAt n k (-1) (bnds rows k (-1)))) ++ stAt n k wt (bnds rows k wt) from by
            have hj3 : j = 0 ∨ j = 1 := by omega
            rcases hj3 with rfl | rfl
            · obtain rfl : wt = 1 := by omega
              simp
            · obtain rfl : wt = -1 := by omega
              simp)
          have HWN := Lib.hid (show wt - 2 = 1 - 2 * ((j + 1 : Nat) : Int) by omega)
          have hpj : (ps0 ++ (if j = 0 then [] else if j = 1 then stAt n k 1 (bnds rows k 1) else stAt n k 1 (bnds rows k 1) ++ stAt n k (-1) (bnds rows k (-1)))).length ≤ k * 34 + 34 := by
            have h1 := bnds_length rows k 1 h16
            have h2 := bnds_length rows k (-1) h16
            rw [List.length_append]
            split
            · simp; omega
            · split
              · rw [stAt_length]; omega
              · rw [List.length_append, stAt_length, stAt_length]; omega
          rw [hwt]
          have g0 : decide ((-1 : Int) ≤ wt) = true := by simp; omega
          have HOj := Lib.hid hown
          have HBj := Lib.hid hbel
          have hszj := hbel.size
          have HMS := Lib.hid (show (wt - 2 + 3).toNat < (wt + 3).toNat by omega)
          have hPF := HPF.out k hlt
          clear hown hbel hwt
          generalize ps0 ++ (if j = 0 then [] else if j = 1 then stAt n k 1 (bnds rows k 1) else stAt n k 1 (bnds rows k 1) ++ stAt n k (-1) (bnds rows k (-1))) = psj at *
          obtain ⟨W2, hW2⟩ : ∃ W2 : World, W2 = wr := ⟨_, rfl⟩
          have HEI := Lib.hid (own_empty wr).1
          have hbei := below_alloc wr (.cells #[] 3)
          rw [← hW2] at HEI hbei HOj HBj hszj hEj ⊢
          clear hW2
          have m9 : W2.cell? ⟨w.heap.size, 0, none⟩ = some (.slice (some ⟨bl, off, none⟩) rows.length c) := cell_below HBj.out XB0.out (by omega)
          have M9 := Lib.hid m9
          clear m9
          go_wp2_with fail
          go_loopw [7, 8] (fun v i wr => ∃ (m g cc : Nat), m ≤ rows.length ∧ i = .int .i64 m ∧ v = .slice (some ⟨g, 0, none⟩) (insTo (valsL rows k wt rows.length) m).length cc ∧ wr.ownsRow W2.heap.size 3 1 v (insTo (valsL rows k wt rows.length) m).length ((insTo (valsL rows k wt rows.length) m).map (Value.int .i64)) ∧ Below W2.heap.size W2 wr) (fun _ i _ => rows.length - (intOf i).toNat)
          case atStart => exact ⟨0, W2.heap.size, 0, Nat.zero_le _, rfl, rfl, HEI.out, hbei⟩
          case round =>
            obtain ⟨m, g, cc, hm, rfl, rfl, hob, hbb⟩ := hrel
            have m9 := cell_below hbb M9.out (by omega)
            have hszb := hbb.size
            by_cases hmt : m < rows.length
            · have HBA := Lib.hid (show Below w.heap.size w wr from HB0.out.trans ((HBj.out.trans (hbb.mono hszj)).mono (by omega)))
              obtain ⟨bl2, off2, rp2, rq2, hab2, hbl2, hc2, hpq2, hrow2⟩ := (Hhr.out.below HBA.out).at hmt
              obtain ⟨rfl, rfl⟩ : bl = bl2 ∧ off = off2 := by cases hab2; exact ⟨rfl, rfl⟩
              have hFk := hPF m hmt
              obtain ⟨pb, po, hpe, hpb, hpc⟩ := hrow2.at hFk.1
              subst hpe
              have hwb := wt_bd hFk.2 hw1
              have e1 : IntKind.i64.wrap (wt * (rows.getD m []).getD k 0) = wt * (rows.getD m []).getD k 0 := IntWalk.i64_in _ (by omega)
              have hil := insTo_length (valsL rows k wt rows.length) m (by rw [vals_length _ _ _ _ (Nat.le_refl _)]; exact hm)
              have HPT := Lib.hid (spec_put W2.heap.size g cc (insTo (valsL rows k wt rows.length) m) (wt * (rows.getD m []).getD k 0) wr hob (by omega))
              have HNX := Lib.hid (show insTo (valsL rows k wt rows.length) (m + 1) = putI (insTo (valsL rows k wt rows.length) m) (wt * (rows.getD m []).getD k 0) from by rw [insTo_succ _ _ (by rw [vals_length _ _ _ _ (Nat.le_refl _)]; exact hmt), vals_at rows k wt m hmt, put_eq])
              have HNE := Lib.hid (show 0 < (putI (insTo (valsL rows k wt rows.length) m) (wt * (rows.getD m []).getD k 0)).length from by rw [put_eq]; exact List.length_pos_iff.2 (ins_ne _ _))
              have HBb := Lib.hid hbb
              have q1 : (0 : Int) ≤ (m : Int) := by omega
              have q2 : (m : Int) < (rows.length : Int) := by omega
              have q3 : (k : Int) < ((rows.getD m []).length : Int) := by have := hFk.1; omega
              clear hob hbb hpq2 hrow2 hFk hwb hil hab2
              generalize (rows.getD m []).length = rl at *
              generalize (rows.getD m []).getD k 0 = z at *
              generalize hIL : insTo (valsL rows k wt rows.length) m = il at *
              generalize putI il (wt * z) = il2 at *
              clear hIL
              go_wp2_with fail
              refine HPT.out.mono ?_
              rintro e w3 ⟨v3, rfl, ho3, hb3⟩
              obtain ⟨g3, c3, rfl⟩ : ∃ g3 c3, v3 = .slice (some ⟨g3, 0, none⟩) il2.length c3 := by
                rcases ho3.2 with ⟨_, h9⟩ | ⟨g, cap, cur, e, _⟩
                · have := HNE.out; omega
                · exact ⟨g, cap, e⟩
              have HO3 := Lib.hid ho3
              have HB3 := Lib.hid (HBb.out.trans (hb3.mono hszb))
              clear ho3 hb3
              go_wp2_with fail
              go_roundw
              case rel => exact ⟨m + 1, g3, c3, by omega, by go_num, by rw [HNX.out], by rw [HNX.out]; exact HO3.out, HB3.out⟩
              case measure => simp [intOf]; omega
            · obtain rfl : m = rows.length := by omega
              have hne9 : valsL rows k wt rows.length ≠ [] := fun e => by have h9 := vals_length rows k wt rows.length (Nat.le_refl _); rw [e] at h9; simp at h9; omega
              have HBS := Lib.hid (show bnds rows k wt = insTo (valsL rows k wt rows.length) rows.length ++ [(insTo (valsL rows k wt rows.length) rows.length).getD ((insTo (valsL rows k wt rows.length) rows.length).length - 1) 0 + 1] from by
                unfold bnds bndL
                rw [vals_length rows k wt rows.length (Nat.le_refl _)])
              have hls := bnd_last (valsL rows k wt rows.length) hne9
              rw [vals_length rows k wt rows.length (Nat.le_refl _)] at hls
              have hbd := vals_bd (wt := wt) hPF hw1 rows.length (Nat.le_refl _) _ (Go.Proofs.Ythohnnobahcdpaa.bndp.maxOf_mem _ hne9)
              rw [← hls] at hbd
              have hpos : 0 < (insTo (valsL rows k wt rows.length) rows.length).length := by
                have h9 := (insTo_mem (valsL rows k wt rows.length) rows.length (by rw [vals_length _ _ _ _ (Nat.le_refl _)]; exact Nat.le_refl _) (Lib.maxOf (valsL rows k wt rows.length))).2 (by rw [List.take_of_length_le (by rw [vals_length _ _ _ _ (Nat.le_refl _)]; exact Nat.le_refl _)]; exact Go.Proofs.Ythohnnobahcdpaa.bndp.maxOf_mem _ hne9)
                exact List.length_pos_of_mem h9
              have hil := insTo_length (valsL rows k wt rows.length) rows.length (by rw [vals_length _ _ _ _ (Nat.le_refl _)]; exact Nat.le_refl _)
              clear hls hne9
              generalize insTo (valsL rows k wt rows.length) rows.length = il at *
              obtain ⟨len9, hlen9⟩ : ∃ len9, il.length = len9 := ⟨_, rfl⟩
              obtain ⟨lm, hlm⟩ : ∃ lm, il.length - 1 = lm := ⟨_, rfl⟩
              have hcl : wr.cell? ⟨g, lm, none⟩ = some (.int .i64 (il.getD lm 0)) := by
                rw [hob.cellAt lm (by omega), List.getElem?_map, List.getElem?_eq_getElem (by omega), List.getD_eq_getElem?_getD, List.getElem?_eq_getElem (by omega)]; rfl
              rw [hlm] at hbd HBS
              have HVB := Lib.hid (fun g9 (e : (Value.slice (some ⟨g, 0, none⟩) il.length cc).ownBlock = some g9) => hob.lt g9 e)
              rw [hlen9] at hob HVB ⊢
              have e2 : IntKind.i64.wrap ((len9 : Int) - 1) = (lm : Int) := by rw [IntWalk.i64_in _ (by omega)]; omega
              have e3 : IntKind.i64.wrap (il.getD lm 0 + 1) = il.getD lm 0 + 1 := IntWalk.i64_in _ (by omega)
              have q1 : (0 : Int) ≤ (lm : Int) := by omega
              have q2 : (lm : Int) < (len9 : Int) := by omega
              have HIL := Lib.hid hlen9
              have HO := Lib.hid hob
              have HBb := Lib.hid hbb
              have hl20 : len9 ≤ 16 := by omega
              clear hob hbb hbd hpos hil hlen9 hlm
              generalize il.getD lm 0 = lz at *
              go_wp2_with (at_builtin; refine wpList_append_own _ rfl _ _ 22 rfl W2.heap.size 3 i0 (.int .i64 0) 1 8 Try.underlying22 hi hz0 hz1 hz2 rfl (by decide) _ _ _ rfl (HO.out.alloc _) ⟨wr.heap.size, 0, none⟩ 1 1 [.int .i64 (lz + 1)] rfl rfl (cell_one_new _ _ _) (by simp [Value.oneCell']) (by unfold maxLen; omega) (by omega) (by simp; omega) ?_; intro v' w2 hown' hgrow _)
              obtain ⟨gb, capb, hv'⟩ := ownsRow_succ hown'
              subst hv'
              have hgb := hown'.lt gb rfl
              have HOB4 := Lib.hid (show w2.ownsRow W2.heap.size 3 1 (.slice (some ⟨gb, 0, none⟩) (bnds rows k wt).length capb) (bnds rows k wt).length ((bnds rows k wt).map (Value.int .i64)) by
                rw [HBS.out, List.map_append, List.length_append, HIL.out]; exact hown')
              have HLB := Lib.hid (show len9 + 1 = (bnds rows k wt).length by rw [HBS.out, List.length_append, HIL.out]; rfl)
              have HB24 := Lib.hid (show Below W2.heap.size W2 w2 from (HBb.out.alloc hszb _).grown hgrow (by simp; omega) (fun g9 e => (HVB.out g9 e).1))
              have hl17 := bnds_length rows k wt h16
              clear hown' hgrow HVB HO HBS
              rw [HLB.out]
              generalize bnds rows k wt = bs at *
              obtain ⟨W4, hW4⟩ : ∃ W4 : World, W4 = w2 := ⟨_, rfl⟩
              rw [← hW4] at HOB4 HB24 hgb ⊢
              clear hW4
              have hs24 := HB24.out.size
              have HOK := Lib.hid (show OwnK wb1.heap.size W4.heap.size W4 u3 (psj ++ stAt n k wt (bs.take 0)) csj from by
                have h9 := HOj.out.below HB24.out
                rw [show psj ++ stAt n k wt (bs.take 0) = psj from by simp [stAt]]
                exact ⟨h9.1, fun g9 hg9 => Nat.lt_of_lt_of_le (h9.2.1 g9 hg9) hs24, h9.2.2.mono (Nat.le_refl _) hs24⟩)
              have HBK := Lib.hid (show ∀ g9, u3.ownBlock = some g9 → g9 < W2.heap.size ∨ W4.heap.size ≤ g9 from fun g9 e => .inl (HOj.out.1.lt g9 e).2)
              go_wp2_with fail
              go_loopw [3, 9] (fun v i wr => ∃ (mq : Nat) (cs : List Value), mq ≤ bs.length ∧ i = .int .i64 mq ∧ OwnK wb1.heap.size wr.heap.size wr v (psj ++ stAt n k wt (bs.take mq)) cs ∧ Below wb1.heap.size wb1 wr ∧ W4.heap.size ≤ wr.heap.size ∧ Hid (∀ g9, W2.heap.size ≤ g9 → g9 < W4.heap.size → wr.heap[g9]? = W4.heap[g9]?) ∧ Hid (∀ g9, v.ownBlock = some g9 → g9 < W2.heap.size ∨ W4.heap.size ≤ g9)) (fun _ i _ => bs.length - (intOf i).toNat)
              case atStart => exact ⟨0, csj, Nat.zero_le _, rfl, HOK.out, HBj.out.trans (HB24.out.mono hszj), Nat.le_refl _, fun g9 _ _ => rfl, HBK.out⟩
              case round =>
                obtain ⟨mq, cs, hmq, rfl, hown, hbel, hs4r, hkeep, hblk⟩ := hrel
                have hsz := hbel.size
                by_cases hqt : mq < bs.length
                · have hgb1 : W2.heap.size ≤ gb := hgb.1
                  have hgb2 : gb < W4.heap.size := hgb.2
                  have hcb : wr.cell? ⟨gb, mq, none⟩ = some (.int .i64 (bs.getD mq 0)) := by
                    refine (World.cell?_of_block (hkeep.out gb hgb1 hgb2)).trans ?_
                    rw [HOB4.out.cellAt mq (by omega), List.getElem?_map, List.getElem?_eq_getElem hqt, List.getD_eq_getElem?_getD, List.getElem?_eq_getElem hqt]; rfl
                  have HS := Lib.hid (stAt_succ n k wt bs mq hqt)
                  have hpsl : (psj ++ stAt n k wt (bs.take mq)).length ≤ 1000 := by rw [List.length_append, stAt_length, List.length_take]; omega
                  have HASS := Lib.hid (show psj ++ stAt n k wt (bs.take (mq + 1)) = (psj ++ stAt n k wt (bs.take mq)) ++ [(unitL n k wt, bs.getD mq 0)] from by rw [HS.out, List.append_assoc])
                  have HO := Lib.hid hown
                  have HBl := Lib.hid hbel
                  have q3 : (0 : Int) ≤ (mq : Int) := by omega
                  have q4 : (mq : Int) < (bs.length : Int) := by omega
                  clear hown hbel HS
                  generalize bs.getD mq 0 = bb at *
                  generalize psj ++ stAt n k wt (bs.take mq) = ps at *
                  go_wp2_with fail
                  refine wp_region_noPanic ?_
                  refine wp_region_held_drew (S := fun w' => w'.cell? ⟨gb, mq, none⟩ = some (.int .i64 bb)) (by kernel_rfl) ?_ (fun hHeld => ?_)
                  · exact hcb
                  refine wpAnyH_take (i := 0) (v := ?_) rfl (by kernel_rfl) (by kernel_rfl) (by kernel_rfl) (fun _ _ _ h => h) (Or.inl ⟨by rfl, ?_⟩) (by assumption) ?_
                  rotate_left
                  · intro w9 hSw; (try dsimp only at hSw); go_simp; try with_reducible rfl
                  try simp only [List.getElem_toArray, List.getElem_cons_succ, List.getElem_cons_zero, Act.put, List.setIfInBounds_toArray, List.set_cons_zero, List.set_cons_succ]
                  refine wpAnyH_take (i := 1) (v := ?_) rfl (by kernel_rfl) (by kernel_rfl) (by kernel_rfl) (fun _ _ _ h => h) (Or.inl ⟨by rfl, ?_⟩) (by assumption) ?_
                  rotate_left
                  · intro w9 hSw; (try dsimp only at hSw); go_simp; try with_reducible rfl
                  try simp only [List.getElem_toArray, List.getElem_cons_succ, List.getElem_cons_zero, Act.put, List.setIfInBounds_toArray, List.set_cons_zero, List.set_cons_succ]
                  refine wpAnyH_take (i := 2) (v := ?_) rfl (by kernel_rfl) (by kernel_rfl) (by kernel_rfl) (fun _ _ _ h => h) (Or.inl ⟨by rfl, ?_⟩) (by assumption) ?_
                  rotate_left
                  · intro w9 hSw; (try dsimp only at hSw); go_simp; try with_reducible rfl
                  try simp only [List.getElem_toArray, List.getElem_cons_succ, List.getElem_cons_zero, Act.put, List.setIfInBounds_toArray, List.set_cons_zero, List.set_cons_succ]
                  refine wpAnyH_take (i := 3) (v := ?_) rfl (by kernel_rfl) (by kernel_rfl) (by kernel_rfl) (fun _ _ _ h => h) (Or.inl ⟨by rfl, ?_⟩) (by assumption) ?_
                  rotate_left
                  · intro w9 hSw; (try dsimp only at hSw); go_simp; try with_reducible rfl
                  try simp only [List.getElem_toArray, List.getElem_cons_succ, List.getElem_cons_zero, Act.put, List.setIfInBounds_toArray, List.set_cons_zero, List.set_cons_succ]
                  refine wpAnyH_take (i := 5) (v := ?_) rfl (by kernel_rfl) (by kernel_rfl) (by kernel_rfl) (fun _ _ _ h => h) (Or.inl ⟨by rfl, ?_⟩) (by assumption) ?_
                  rotate_left
                  · intro w9 hSw; (try dsimp only at hSw); go_simp; try with_reducible rfl
                  try simp only [List.getElem_toArray, List.getElem_cons_succ, List.getElem_cons_zero, Act.put, List.setIfInBounds_toArray, List.set_cons_zero, List.set_cons_succ]
                  refine wpAnyH_take (i := 6) (v := ?_) rfl (by kernel_rfl) (by kernel_rfl) (by kernel_rfl) (fun _ _ _ h => h) (Or.inl ⟨by rfl, ?_⟩) (by assumption) ?_
                  rotate_left
                  · intro w9 hSw; (try dsimp only at hSw); go_simp; try with_reducible rfl
                  try simp only [List.getElem_toArray, List.getElem_cons_succ, List.getElem_cons_zero, Act.put, List.setIfInBounds_toArray, List.set_cons_zero, List.set_cons_succ]
                  refine wpAnyH_take (i := 7) (v := ?_) rfl (by kernel_rfl) (by kernel_rfl) (by kernel_rfl) (fun _ _ _ h => h) (Or.inl ⟨by rfl, ?_⟩) (by assumption) ?_
                  rotate_left
                  · intro w9 hSw; (try dsimp only at hSw); go_simp; try with_reducible rfl
                  try simp only [List.getElem_toArray, List.getElem_cons_succ, List.getElem_cons_zero, Act.put, List.setIfInBounds_toArray, List.set_cons_zero, List.set_cons_succ]
                  refine wpAnyH_take (i := 8) (v := ?_) rfl (by kernel_rfl) (by kernel_rfl) (by kernel_rfl) (fun _ _ _ h => h) (Or.inl ⟨by rfl, ?_⟩) (by assumption) ?_
                  rotate_left
                  · intro w9 hSw; (try dsimp only at hSw); go_simp; try with_reducible rfl
                  try simp only [List.getElem_toArray, List.getElem_cons_succ, List.getElem_cons_zero, Act.put, List.setIfInBounds_toArray, List.set_cons_zero, List.set_cons_succ]
                  refine wpAnyH_ready (rs := [4]) (by kernel_rfl) (by simp) ?_
                  refine AllReadyH.cons rfl (fun K hK => ?_) AllReadyH.nil
                  clear hHeld
                  go_simp
                  refine (spec_unit n k wt _ h4 hlt).mono ?_
                  rintro e v1 ⟨u1, rfl, ho1, hb1⟩
                  obtain ⟨pu, qu, hu1, _, _, _⟩ := ho1.slice
                  subst hu1
                  rw [unit_length] at ho1 ⊢
                  have HC1 := Lib.hid ((Below.refl wr.heap.size wr).drew.trans hb1)
                  have hs1 := HC1.out.size
                  have HW1 := Lib.hid ho1
                  have m0 := cell_below HC1.out hcb (by omega)
                  clear ho1 hb1
                  refine hK.out _ _ ?_ (fun hHeld => ?_)
                  · exact m0
                  clear hK K
                  try simp only [List.getElem_toArray, List.getElem_cons_succ, List.getElem_cons_zero, Act.put, List.setIfInBounds_toArray, List.set_cons_zero, List.set_cons_succ]
                  refine wpAnyH_take (i := 9) (v := ?_) rfl (by kernel_rfl) (by kernel_rfl) (by kernel_rfl) (fun _ _ _ h => h) (Or.inl ⟨by rfl, ?_⟩) (by assumption) ?_
                  rotate_left
                  · intro w9 hSw; (try dsimp only at hSw); go_simp; try with_reducible rfl
                  try simp only [List.getElem_toArray, List.getElem_cons_succ, List.getElem_cons_zero, Act.put, List.setIfInBounds_toArray, List.set_cons_zero, List.set_cons_succ]
                  refine wpAnyH_ready (rs := [10]) (by kernel_rfl) (by simp) ?_
                  refine AllReadyH.cons rfl (fun K hK => ?_) AllReadyH.nil
                  clear hHeld
                  go_simp
                  have HB3 := Lib.hid (below_alloc v1 (.cells #[.slice pu n qu, .int .i64 bb] 27))
                  have hs3 := HB3.out.size
                  have z0 := cell_two_new v1 (.slice pu n qu) (.int .i64 bb) 27
                  have hlt3 := size_alloc' v1 (.cells #[.slice pu n qu, .int .i64 bb] 27)
                  have q0 := cell_below HB3.out m0 (by omega)
                  have HZ0 := Lib.hid z0
                  generalize hw3 : v1.alloc (.cells #[.slice pu n qu, .int .i64 bb] 27) = v3 at *
                  clear hw3 z0
                  refine hK.out _ _ ?_ (fun hHeld => ?_)
                  · exact q0
                  clear hK K
                  try simp only [List.getElem_toArray, List.getElem_cons_succ, List.getElem_cons_zero, Act.put, List.setIfInBounds_toArray, List.set_cons_zero, List.set_cons_succ]
                  refine wpAnyH_ready (rs := [11]) (by kernel_rfl) (by simp) ?_
                  refine AllReadyH.cons rfl (fun K hK => ?_) AllReadyH.nil
                  clear hHeld
                  have hvb := fun g (e : u3.ownBlock = some g) => HO.out.1.lt g e
                  have hro := ownsRow_block (w' := v3) HO.out.1 (fun g hg => (HC1.out.trans (HB3.out.mono hs1)).block g (hvb g hg).2)
                  refine step_append_any (by rfl) _ _ 35 (by rfl) wb1.heap.size 27 j0 (.agg #[.slice none 0 0, .int .i64 0]) 2 32 Try.underlying35 hj hjz0 hjz1 hjz2 (by rfl) (by decide) u3 ps.length (flatJ cs ps) (by rfl) hro ⟨v1.heap.size, 0, none⟩ 1 1 [.slice pu n qu, .int .i64 bb] (by rfl) (by rfl) HZ0.out (by simp [Value.oneCell']) (by unfold maxLen; omega) (by omega) (by omega) ?_
                  intro un4 v4 hown4 hgrow4 hat4
                  have HX3 := Lib.hid (HC1.out.trans (HB3.out.mono hs1))
                  have HPU := Lib.hid (OwnK.push (b := bb) HO.out HX3.out (by omega) (((HW1.out.mono (Nat.le_of_eq (show wr.heap.size = wr.drew.heap.size from rfl)) (Nat.le_refl _)).below HB3.out).mono (Nat.le_refl _) hs3) hown4 hgrow4)
                  have hs4 := hgrow4.size
                  have HB5 := Lib.hid (show Below wb1.heap.size wb1 v4 from (HBl.out.trans (HX3.out.mono hsz)).grown hgrow4 (by omega) (fun g e => (hvb g e).1))
                  have HK5 := Lib.hid (show ∀ g, W2.heap.size ≤ g → g < W4.heap.size → v4.heap[g]? = W4.heap[g]? from fun g h1 h2 => by
          refine (hgrow4.block g (by omega) fun e => ?_).trans ((HX3.out.block g (by omega)).trans (hkeep.out g h1 h2))
          rcases hblk.out g e.symm with h3 | h3 <;> omega)
                  have HK6 := Lib.hid (show ∀ g, un4.ownBlock = some g → g < W2.heap.size ∨ W4.heap.size ≤ g from fun g hg => by
          rcases hat4 with h3 | h3
          · rw [h3] at hg; exact hblk.out g hg
          · right
            rw [h3] at hg
            have e2 : v3.heap.size = g := by simpa using hg
            omega)
                  have r0 : v4.cell? ⟨gb, mq, none⟩ = some (.int .i64 bb) := (World.cell?_of_block ((HK5.out gb hgb1 hgb2).trans (hkeep.out gb hgb1 hgb2).symm)).trans hcb
                  clear hown4 hgrow4 hat4 hvb hro
                  refine hK.out _ _ ?_ (fun hHeld => ?_)
                  · exact r0
                  clear hK K
                  try simp only [List.getElem_toArray, List.getElem_cons_succ, List.getElem_cons_zero, Act.put, List.setIfInBounds_toArray, List.set_cons_zero, List.set_cons_succ]
                  refine wpAnyH_take (i := 12) (v := ?_) rfl (by kernel_rfl) (by kernel_rfl) (by kernel_rfl) (fun _ _ _ h => h) (Or.inl ⟨by rfl, ?_⟩) (by assumption) ?_
                  rotate_left
                  · intro w9 hSw; (try dsimp only at hSw); go_simp; try with_reducible rfl
                  try simp only [List.getElem_toArray, List.getElem_cons_succ, List.getElem_cons_zero, Act.put, List.setIfInBounds_toArray, List.set_cons_zero, List.set_cons_succ]
                  refine wpAnyH_done (by kernel_rfl) ?_ _
                  refine NoPanic.normal ?_
                  clear hHeld
                  go_wp2_with fail
                  go_roundw
                  case rel => exact ⟨mq + 1, _, by omega, by go_num, by rw [HASS.out]; exact HPU.out, HB5.out, by omega, HK5.out, HK6.out⟩
                  case measure => simp [intOf]; omega
                · obtain rfl : mq = bs.length := by omega
                  rw [List.take_length] at hown
                  have HO := Lib.hid hown
                  have HBl := Lib.hid hbel
                  have e9 : IntKind.i64.wrap (wt - 2) = wt - 2 := IntWalk.i64_in _ (by omega)
                  have hE9 : wE.heap.size ≤ wr.heap.size := by omega
                  clear hown hbel
                  go_wp2_with fail
                  go_roundw
                  case rel => exact ⟨j + 1, cs, by omega, by rw [HWN.out], by rw [HJN.out]; exact HO.out, HBl.out, hE9⟩
                  case measure => simpa [intOf] using HMS.out
        · obtain rfl : j = 2 := by omega
          have HO := Lib.hid (show OwnK wb1.heap.size wr.heap.size wr u3 (stumpTo rows n (k + 1)) csj from by
            have h9 := hown
            rw [HPS0.out] at h9
            exact h9)
          have HBl := Lib.hid hbel
          rw [show (1 - 2 * ((2 : Nat) : Int)) = -3 from rfl]
          clear hown hbel
          go_wp2_with fail
          go_roundw
          case rel => exact ⟨k + 1, csj, by omega, by go_num, HO.out, HBl.out, hEj⟩
          case measure => simp [intOf]; omega
    · obtain rfl : k = n := by omega
      have HF := Lib.hid (show ∃ v, Ending.returned u3 = .returned v ∧ OwnJ w.heap.size wr.heap.size wr v (stumpL rows) ∧ Below w.heap.size w wr from ⟨u3, rfl, by rw [HSL.out]; exact (show OwnJ wb1.heap.size wr.heap.size wr u3 _ from ⟨cs0, hown⟩).mono (by omega) (Nat.le_refl _), HB0.out.trans (hbel.mono (by omega))⟩)
      clear hown hbel
      go_wp2_with fail
      go_ret
      exact HF.out
end Go.Proofs.Ythohnnobahcdpaa.stms
