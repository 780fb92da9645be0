/- The mistakes of a sample without a point. -/
import Derived.Test.YtkbcofgigfnfaaaNlabS
import Derived.Test.YtkbcofgigfnfaaaNlabI
import Derived.Test.YtkbcofgigfnfaaaLeftS
import Derived.Test.YtkbcofgigfnfaaaFitsP
import Derived.Test.YtkbcofgigfnfaaaWhere
import Derived.Deep.RegionHeld3
import Derived.Deep.DrawnRows
namespace Go.Proofs.Ytkbcofgigfnfaaa.lefto
open Go.RowKit own pp nums nearp squares dots mk nearq nlabp nears nlabs neari nlabi pwh has fitsp samplesv samplest lefts
set_option linter.unusedVariables false
set_option linter.unusedSimpArgs false

/-- All places but one. -/
def oth (n i : Nat) : List Int := placesTo (fun j => !hasB [(i : Int)] (j : Int)) n
theorem oth_p (i j : Nat) : (!hasB [(i : Int)] (j : Int)) = !(decide (j = i)) := by
  by_cases h : j = i
  · subst h
    rw [show hasB [(j : Int)] (j : Int) = true from hasB_at (k := 0) (by simp) rfl]
    simp
  · rw [hasB_none (fun k hk => by
      have : k = 0 := by simp at hk; exact hk
      subst this
      show (i : Int) ≠ (j : Int)
      omega)]
    simp [h]
theorem oth_length (n i : Nat) : (oth n i).length = if i < n then n - 1 else n := by
  unfold oth
  induction n with
  | zero => simp [placesTo]
  | succ n ih =>
    by_cases h : n = i
    · subst h
      rw [placesTo_miss _ _ (by rw [oth_p]; simp), ih]
      simp
    · rw [placesTo_hit _ _ (by rw [oth_p]; simp [h]), List.length_append, ih]
      by_cases h2 : i < n
      · rw [if_pos h2, if_pos (by omega)]; simp; omega
      · rw [if_neg h2, if_neg (by omega)]; simp
theorem oth_at (n i j : Nat) (hj : j < (oth n i).length) : 0 ≤ (oth n i).getD j 0 ∧ (oth n i).getD j 0 < (n : Int) := by
  have h := getD_mem (oth n i) 0 j hj
  unfold oth placesTo at h
  rw [List.mem_map] at h
  obtain ⟨m, hm, e⟩ := h
  rw [List.mem_filter, List.mem_range] at hm
  unfold oth placesTo
  rw [← e]
  omega
/-- Whether a point is a mistake without itself. -/
def outB (rows : List (List Int)) (zs : List Int) (k : Nat) (i : Nat) : Bool := nlab rows zs (oth rows.length i) (rows.getD i []) k != zs.getD i 0
theorem oth_nbr {rows : List (List Int)} {zs : List Int} (hs : sampleB rows zs = true) (i : Nat) (hi : i < rows.length) : Nbr rows (oth rows.length i) (rows.getD i []) := by
  have h16 := ((sampleB_iff _ _).1 hs).1
  refine ⟨h16, by rw [oth_length]; split <;> omega, fun j hj => ?_⟩
  have h4 := oth_at _ _ j hj
  refine ⟨h4.1, h4.2, (pairB_iff _ _).2 ?_⟩
  have a1 := sample_at hs ((oth rows.length i).getD j 0).toNat (by omega)
  have a2 := sample_at hs i hi
  exact ⟨a1.1, a2.1, by rw [a1.2.1, a2.2.1]⟩
def loB (rows : List (List Int)) (zs : List Int) (k : Int) : Bool := sampleB rows zs && (decide (1 ≤ k) && decide (k ≤ (rows.length : Int) - 1))
theorem loB_iff (rows : List (List Int)) (zs : List Int) (k : Int) : loB rows zs k = true ↔ sampleB rows zs = true ∧ 1 ≤ k ∧ k ≤ (rows.length : Int) - 1 := by simp [loB]
set_option maxRecDepth 100000 in
set_option maxHeartbeats 1600000 in
theorem spec_lo_no (a : Option Addr) (rows : List (List Int)) (c : Nat) (a' : Option Addr) (zs : List Int) (c' : Nat) (k : Int) (w : World) (hr : grid.Reads w a rows) (hz : ints.Reads .i64 w a' zs) (hn : rows.length ≤ 1048576) (hk : zs.length ≤ 1048576) (hm : ∀ r ∈ rows, r.length ≤ 1048576) (h : loB rows zs k = false) :
    Calls Try.prog 27 #[.agg #[.slice a rows.length c, .slice a' zs.length c'], .int .i64 k] w (RetIB [] false w) := by
  have Hhr := Lib.hid hr
  have Hhz := Lib.hid hz
  have Hhm := Lib.hid hm
  clear hr hz hm
  have e1 : IntKind.i64.wrap ((rows.length : Int) - 1) = (rows.length : Int) - 1 := IntWalk.i64_in _ (by omega)
  cases hs : sampleB rows zs
  · have HS := Lib.hid hs
    clear h hs
    go_enter Try.func27, Try.ntmps27
    obtain ⟨wb1, hw1⟩ : ∃ wb1 : World, wb1 = w.alloc (.cells #[.slice a rows.length c, .slice a' zs.length c'] 29) := ⟨_, rfl⟩
    have z1 : wb1.heap.size = w.heap.size + 1 := by rw [hw1]; simp
    have x0_0 := (by rw [hw1]; exact cell_new _ _ _ rfl rfl : wb1.cell? ⟨w.heap.size, 0, none⟩ = some (.slice a rows.length c))
    have x0_1 := (by rw [hw1]; exact cell_new _ _ _ rfl rfl : wb1.cell? ⟨w.heap.size, 1, none⟩ = some (.slice a' zs.length c'))
    have HB0 := Lib.hid (show Below w.heap.size w wb1 by rw [hw1]; exact (Below.refl w.heap.size w).alloc (Nat.le_refl _) _)
    have s1 : w.heap.size + 1 ≤ wb1.heap.size := by omega
    have HZ1 := Lib.hid z1
    clear z1
    go_wp2_with fail
    rw [← hw1]
    clear hw1
    obtain ⟨wc, hwc⟩ : ∃ wc : World, wc = wb1.alloc (.cells #[] 3) := ⟨_, rfl⟩
    have hown0 : wc.ownsRow wb1.heap.size 3 1 (.slice (some ⟨wb1.heap.size, 0, none⟩) 0 0) 0 [] := by rw [hwc]; exact (own_empty wb1).1
    have hbc : Below wb1.heap.size wb1 wc := by rw [hwc]; exact below_alloc _ _
    rw [show w.heap.size + 1 = wb1.heap.size from HZ1.out.symm]
    rw [← hwc]
    clear hwc
    have sc := hbc.size
    have xx0 := x0_0
    have xx1 := x0_1
    replace x0_0 := cell_below hbc x0_0 (by omega)
    replace x0_1 := cell_below hbc x0_1 (by omega)
    have HBC := Lib.hid (HB0.out.trans (hbc.mono (by omega)))
    refine (spec_sample a rows c a' zs c' wc (Hhr.out.below HBC.out) (Hhz.out.below HBC.out) hn hk Hhm.out false HS).mono ?_
    rintro e' w2 ⟨rfl, hb⟩
    have s2 := hb.size
    have ho2 := ownsRow_block (w' := w2) hown0 (fun g hg => hb.block g (hown0.lt g hg).2)
    replace x0_0 := cell_below hb x0_0 (by omega)
    replace x0_1 := cell_below hb x0_1 (by omega)
    have HB2 := Lib.hid (hbc.trans (hb.mono sc))
    have HBW := Lib.hid (HBC.out.trans (hb.mono HBC.out.size))
    have HO2 := Lib.hid ho2
    clear hb hown0 hbc ho2
    go_wp2_with fail
    have HF := Lib.hid (show RetIB [] false w (.returned (.tuple #[.slice (some ⟨wb1.heap.size, 0, none⟩) 0 0, .bool false])) w2 from ⟨_, rfl, (OwnI.of HO2.out).mono (by omega) (Nat.le_refl _), HBW.out⟩)
    go_ret2
    exact HF.out
  · have HS := Lib.hid hs
    have HR := Lib.hid (show (decide (1 ≤ k) && decide (k ≤ (rows.length : Int) - 1)) = false by rw [← h]; unfold loB; rw [hs, Bool.true_and])
    clear h hs
    go_enter Try.func27, Try.ntmps27
    obtain ⟨wb1, hw1⟩ : ∃ wb1 : World, wb1 = w.alloc (.cells #[.slice a rows.length c, .slice a' zs.length c'] 29) := ⟨_, rfl⟩
    have z1 : wb1.heap.size = w.heap.size + 1 := by rw [hw1]; simp
    have x0_0 := (by rw [hw1]; exact cell_new _ _ _ rfl rfl : wb1.cell? ⟨w.heap.size, 0, none⟩ = some (.slice a rows.length c))
    have x0_1 := (by rw [hw1]; exact cell_new _ _ _ rfl rfl : wb1.cell? ⟨w.heap.size, 1, none⟩ = some (.slice a' zs.length c'))
    have HB0 := Lib.hid (show Below w.heap.size w wb1 by rw [hw1]; exact (Below.refl w.heap.size w).alloc (Nat.le_refl _) _)
    have s1 : w.heap.size + 1 ≤ wb1.heap.size := by omega
    have HZ1 := Lib.hid z1
    clear z1
    go_wp2_with fail
    rw [← hw1]
    clear hw1
    obtain ⟨wc, hwc⟩ : ∃ wc : World, wc = wb1.alloc (.cells #[] 3) := ⟨_, rfl⟩
    have hown0 : wc.ownsRow wb1.heap.size 3 1 (.slice (some ⟨wb1.heap.size, 0, none⟩) 0 0) 0 [] := by rw [hwc]; exact (own_empty wb1).1
    have hbc : Below wb1.heap.size wb1 wc := by rw [hwc]; exact below_alloc _ _
    rw [show w.heap.size + 1 = wb1.heap.size from HZ1.out.symm]
    rw [← hwc]
    clear hwc
    have sc := hbc.size
    have xx0 := x0_0
    have xx1 := x0_1
    replace x0_0 := cell_below hbc x0_0 (by omega)
    replace x0_1 := cell_below hbc x0_1 (by omega)
    have HBC := Lib.hid (HB0.out.trans (hbc.mono (by omega)))
    refine (spec_sample a rows c a' zs c' wc (Hhr.out.below HBC.out) (Hhz.out.below HBC.out) hn hk Hhm.out true HS).mono ?_
    rintro e' w2 ⟨rfl, hb⟩
    have s2 := hb.size
    have ho2 := ownsRow_block (w' := w2) hown0 (fun g hg => hb.block g (hown0.lt g hg).2)
    replace x0_0 := cell_below hb x0_0 (by omega)
    replace x0_1 := cell_below hb x0_1 (by omega)
    have HB2 := Lib.hid (hbc.trans (hb.mono sc))
    have HBW := Lib.hid (HBC.out.trans (hb.mono HBC.out.size))
    have HO2 := Lib.hid ho2
    clear hb hown0 hbc ho2
    go_wp2_with fail
    refine (in_any _ 1 ((rows.length : Int) - 1) _ false HR).mono ?_
    rintro e' w' ⟨rfl, rfl⟩
    go_wp2_with fail
    have HF := Lib.hid (show RetIB [] false w (.returned (.tuple #[.slice (some ⟨wb1.heap.size, 0, none⟩) 0 0, .bool false])) w2 from ⟨_, rfl, (OwnI.of HO2.out).mono (by omega) (Nat.le_refl _), HBW.out⟩)
    go_ret2
    exact HF.out
set_option maxRecDepth 100000 in
set_option maxHeartbeats 1600000 in
theorem spec_lo_yes (a : Option Addr) (rows : List (List Int)) (c : Nat) (a' : Option Addr) (zs : List Int) (c' : Nat) (k : Nat) (w : World) (hr : grid.Reads w a rows) (hz : ints.Reads .i64 w a' zs) (hn : rows.length ≤ 1048576) (hk : zs.length ≤ 1048576) (hm : ∀ r ∈ rows, r.length ≤ 1048576) (h : loB rows zs (k : Int) = true) :
    Calls Try.prog 27 #[.agg #[.slice a rows.length c, .slice a' zs.length c'], .int .i64 k] w (RetIB (placesTo (outB rows zs k) rows.length) true w) := by
  obtain ⟨i0, hi, hz0, hz1, hz2⟩ := info_parts mk.infoInt
  have Hhr := Lib.hid hr
  have Hhz := Lib.hid hz
  have Hhm := Lib.hid hm
  clear hr hz hm
  have e1 : IntKind.i64.wrap ((rows.length : Int) - 1) = (rows.length : Int) - 1 := IntWalk.i64_in _ (by omega)
  obtain ⟨hs, hk1, hk2⟩ := (loB_iff _ _ _).1 h
  have HS := Lib.hid hs
  have HR := Lib.hid (show (decide ((1 : Int) ≤ (k : Int)) && decide ((k : Int) ≤ (rows.length : Int) - 1)) = true by simp; omega)
  have hl16 := ((sampleB_iff _ _).1 hs).1
  have HLZ := Lib.hid ((sampleB_iff _ _).1 hs).2.1
  have HLB := Lib.hid (lab_of ((sampleB_iff _ _).1 hs).2.2.1)
  clear h hs
  go_enter Try.func27, Try.ntmps27
  obtain ⟨wb1, hw1⟩ : ∃ wb1 : World, wb1 = w.alloc (.cells #[.slice a rows.length c, .slice a' zs.length c'] 29) := ⟨_, rfl⟩
  have z1 : wb1.heap.size = w.heap.size + 1 := by rw [hw1]; simp
  have x0_0 := (by rw [hw1]; exact cell_new _ _ _ rfl rfl : wb1.cell? ⟨w.heap.size, 0, none⟩ = some (.slice a rows.length c))
  have x0_1 := (by rw [hw1]; exact cell_new _ _ _ rfl rfl : wb1.cell? ⟨w.heap.size, 1, none⟩ = some (.slice a' zs.length c'))
  have HB0 := Lib.hid (show Below w.heap.size w wb1 by rw [hw1]; exact (Below.refl w.heap.size w).alloc (Nat.le_refl _) _)
  have s1 : w.heap.size + 1 ≤ wb1.heap.size := by omega
  have HZ1 := Lib.hid z1
  clear z1
  go_wp2_with fail
  rw [← hw1]
  clear hw1
  obtain ⟨wc, hwc⟩ : ∃ wc : World, wc = wb1.alloc (.cells #[] 3) := ⟨_, rfl⟩
  have hown0 : wc.ownsRow wb1.heap.size 3 1 (.slice (some ⟨wb1.heap.size, 0, none⟩) 0 0) 0 [] := by rw [hwc]; exact (own_empty wb1).1
  have hbc : Below wb1.heap.size wb1 wc := by rw [hwc]; exact below_alloc _ _
  rw [show w.heap.size + 1 = wb1.heap.size from HZ1.out.symm]
  rw [← hwc]
  clear hwc
  have sc := hbc.size
  have xx0 := x0_0
  have xx1 := x0_1
  replace x0_0 := cell_below hbc x0_0 (by omega)
  replace x0_1 := cell_below hbc x0_1 (by omega)
  have HBC := Lib.hid (HB0.out.trans (hbc.mono (by omega)))
  refine (spec_sample a rows c a' zs c' wc (Hhr.out.below HBC.out) (Hhz.out.below HBC.out) hn hk Hhm.out true HS).mono ?_
  rintro e' w2 ⟨rfl, hb⟩
  have s2 := hb.size
  have ho2 := ownsRow_block (w' := w2) hown0 (fun g hg => hb.block g (hown0.lt g hg).2)
  replace x0_0 := cell_below hb x0_0 (by omega)
  replace x0_1 := cell_below hb x0_1 (by omega)
  have HB2 := Lib.hid (hbc.trans (hb.mono sc))
  have HBW := Lib.hid (HBC.out.trans (hb.mono HBC.out.size))
  have HO2 := Lib.hid ho2
  clear hb hown0 hbc ho2
  go_wp2_with fail
  refine (in_any _ 1 ((rows.length : Int) - 1) _ true HR).mono ?_
  rintro e' w' ⟨rfl, rfl⟩
  go_wp2_with fail
  go_loopw [6, 7] (fun v ii wr => ∃ i : Nat, i ≤ rows.length ∧ ii = .int .i64 i ∧ wr.ownsRow wb1.heap.size 3 1 v (placesTo (outB rows zs k) i).length ((placesTo (outB rows zs k) i).map (Value.int .i64)) ∧ Below wb1.heap.size wb1 wr) (fun _ ii _ => rows.length - (intOf ii).toNat)
  case atStart => exact ⟨0, Nat.zero_le _, rfl, HO2.out, HB2.out⟩
  case round =>
    obtain ⟨i, hi9, rfl, hown, hbel⟩ := hrel
    have hsz := hbel.size
    have HV := Lib.hid hown.lt
    have HO := Lib.hid hown
    have HBl := Lib.hid hbel
    replace x0_0 := cell_below hbel xx0 (by omega)
    replace x0_1 := cell_below hbel xx1 (by omega)
    by_cases hlt : i < rows.length
    · have HBB := Lib.hid (HB0.out.trans (hbel.mono (by omega)))
      obtain ⟨bl, off, rp, rq, hab, hbl, hcr, hpq, hrow⟩ := (Hhr.out.below HB0.out).at hlt
      subst hab
      replace hcr := cell_below hbel hcr (by omega)
      obtain ⟨lb, lo, hlb, hll, hlc⟩ := (Hhz.out.below HB0.out).at (k := i) (by have := HLZ.out; omega)
      subst hlb
      replace hlc := cell_below hbel hlc (by omega)
      have hrow2 := hrow.below hbel
      have hlen := placesTo_length (outB rows zs k) i
      have HCK := Lib.hid (show ∀ (aA : Option Addr) (cA : Nat) (wa : World), Below wr.heap.size wr wa → ints.Reads .i64 wa aA (oth rows.length i) → Calls Try.prog 68 #[.agg #[.slice (some ⟨bl, off, none⟩) rows.length c, .slice (some ⟨lb, lo, none⟩) zs.length c'], .slice aA (oth rows.length i).length cA, .slice rp (rows.getD i []).length rq, .int .i64 k] wa (RetN (nlab rows zs (oth rows.length i) (rows.getD i []) k) wa) from fun aA cA wa hb hp9 => spec_nlab _ rows c _ zs c' aA _ cA rp (rows.getD i []) rq k wa ((Hhr.out.below HBB.out).below hb) ((Hhz.out.below HBB.out).below hb) hp9 (hrow2.below hb) (oth_nbr HS.out i hlt) HLB.out HLZ.out (by rw [oth_length, if_pos hlt]; omega))
      have i1 : (0 : Int) ≤ (i : Int) := by omega
      have i2 : (i : Int) < (rows.length : Int) := by omega
      have i3 : (i : Int) < (zs.length : Int) := by have := HLZ.out; omega
      have hbl9 : bl < wr.heap.size := by omega
      have hll9 : lb < wr.heap.size := by omega
      have hw9 : w.heap.size < wr.heap.size := by omega
      clear hbel hown hrow hrow2 hpq HO2 xx0 xx1
      cases hp : outB rows zs k i
      · skip
        have HM := Lib.hid (placesTo_miss (outB rows zs k) i hp)
        have g1 : (nlab rows zs (oth rows.length i) (rows.getD i []) k != zs.getD i 0) = false := hp
        clear hp
        generalize nlab rows zs (oth rows.length i) (rows.getD i []) k = v at *
        generalize rows.getD i [] = r at *
        generalize zs.getD i 0 = z at *
        generalize placesTo (outB rows zs k) i = ms at *
        go_wp2_with fail
        refine wp_region_noPanic ?_
        refine wp_region_held_drew (S := fun w' => w'.cell? ⟨w.heap.size, 0, none⟩ = some (.slice (some ⟨bl, off, none⟩) rows.length c) ∧ w'.cell? ⟨w.heap.size, 1, none⟩ = some (.slice (some ⟨lb, lo, none⟩) zs.length c') ∧ w'.cell? ⟨bl, off + i, none⟩ = some (.slice rp r.length rq) ∧ w'.cell? ⟨lb, lo + i, none⟩ = some (.int .i64 z)) (by kernel_rfl) ?_ (fun hHeld => ?_)
        · exact ⟨x0_0, x0_1, hcr, hlc⟩
        have hb9 : Below wr.heap.size wr wr.drew := (Below.refl _ _).drew
        have HC0 := Lib.hid hb9
        clear hb9
        generalize wr.drew = v0 at *
        refine wpAnyH_take (i := 0) (v := ?_) rfl (by kernel_rfl) (by kernel_rfl) (by kernel_rfl) (fun _ _ _ h => h) (Or.inl ⟨by rfl, ?_⟩) (by assumption) ?_
        rotate_left
        · intro w9 hSw; (try dsimp only at hSw); go_simp; try with_reducible rfl
        try simp only [List.getElem_toArray, List.getElem_cons_succ, List.getElem_cons_zero, Act.put, List.setIfInBounds_toArray, List.set_cons_zero, List.set_cons_succ]
        refine wpAnyH_take (i := 1) (v := ?_) rfl (by kernel_rfl) (by kernel_rfl) (by kernel_rfl) (fun _ _ _ h => h) (Or.inl ⟨by rfl, ?_⟩) (by assumption) ?_
        rotate_left
        · intro w9 hSw; (try dsimp only at hSw); go_simp; try with_reducible rfl
        try simp only [List.getElem_toArray, List.getElem_cons_succ, List.getElem_cons_zero, Act.put, List.setIfInBounds_toArray, List.set_cons_zero, List.set_cons_succ]
        refine wpAnyH_take (i := 2) (v := ?_) rfl (by kernel_rfl) (by kernel_rfl) (by kernel_rfl) (fun _ _ _ h => h) (Or.inl ⟨by rfl, ?_⟩) (by assumption) ?_
        rotate_left
        · intro w9 hSw; (try dsimp only at hSw); go_simp; try with_reducible rfl
        try simp only [List.getElem_toArray, List.getElem_cons_succ, List.getElem_cons_zero, Act.put, List.setIfInBounds_toArray, List.set_cons_zero, List.set_cons_succ]
        refine wpAnyH_take (i := 3) (v := ?_) rfl (by kernel_rfl) (by kernel_rfl) (by kernel_rfl) (fun _ _ _ h => h) (Or.inl ⟨by rfl, ?_⟩) (by assumption) ?_
        rotate_left
        · intro w9 hSw; (try dsimp only at hSw); go_simp; try with_reducible rfl
        try simp only [List.getElem_toArray, List.getElem_cons_succ, List.getElem_cons_zero, Act.put, List.setIfInBounds_toArray, List.set_cons_zero, List.set_cons_succ]
        refine wpAnyH_take (i := 4) (v := ?_) rfl (by kernel_rfl) (by kernel_rfl) (by kernel_rfl) (fun _ _ _ h => h) (Or.inl ⟨by rfl, ?_⟩) (by assumption) ?_
        rotate_left
        · intro w9 hSw; (try dsimp only at hSw); go_simp; try with_reducible rfl
        try simp only [List.getElem_toArray, List.getElem_cons_succ, List.getElem_cons_zero, Act.put, List.setIfInBounds_toArray, List.set_cons_zero, List.set_cons_succ]
        refine wpAnyH_take (i := 7) (v := ?_) rfl (by kernel_rfl) (by kernel_rfl) (by kernel_rfl) (fun _ _ _ h => h) (Or.inl ⟨by rfl, ?_⟩) (by assumption) ?_
        rotate_left
        · intro w9 hSw; (try dsimp only at hSw); go_simp; try with_reducible rfl
        try simp only [List.getElem_toArray, List.getElem_cons_succ, List.getElem_cons_zero, Act.put, List.setIfInBounds_toArray, List.set_cons_zero, List.set_cons_succ]
        refine wpAnyH_take (i := 8) (v := ?_) rfl (by kernel_rfl) (by kernel_rfl) (by kernel_rfl) (fun _ _ _ h => h) (Or.inl ⟨by rfl, ?_⟩) (by assumption) ?_
        rotate_left
        · intro w9 hSw; (try dsimp only at hSw); go_simp; try with_reducible rfl
        try simp only [List.getElem_toArray, List.getElem_cons_succ, List.getElem_cons_zero, Act.put, List.setIfInBounds_toArray, List.set_cons_zero, List.set_cons_succ]
        refine wpAnyH_take (i := 9) (v := ?_) rfl (by kernel_rfl) (by kernel_rfl) (by kernel_rfl) (fun _ _ _ h => h) (Or.inl ⟨by rfl, ?_⟩) (by assumption) ?_
        rotate_left
        · intro w9 hSw; (try dsimp only at hSw); go_simp; try with_reducible rfl
        try simp only [List.getElem_toArray, List.getElem_cons_succ, List.getElem_cons_zero, Act.put, List.setIfInBounds_toArray, List.set_cons_zero, List.set_cons_succ]
        refine wpAnyH_take (i := 10) (v := ?_) rfl (by kernel_rfl) (by kernel_rfl) (by kernel_rfl) (fun _ _ _ h => h) (Or.inl ⟨by rfl, ?_⟩) (by assumption) ?_
        rotate_left
        · intro w9 hSw; (try dsimp only at hSw); go_simp; try with_reducible rfl
        try simp only [List.getElem_toArray, List.getElem_cons_succ, List.getElem_cons_zero, Act.put, List.setIfInBounds_toArray, List.set_cons_zero, List.set_cons_succ]
        refine wpAnyH_take (i := 11) (v := ?_) rfl (by kernel_rfl) (by kernel_rfl) (by kernel_rfl) (fun _ _ _ h => h) (Or.inl ⟨by rfl, ?_⟩) (by assumption) ?_
        rotate_left
        · intro w9 hSw; (try dsimp only at hSw); go_simp; try with_reducible rfl
        try simp only [List.getElem_toArray, List.getElem_cons_succ, List.getElem_cons_zero, Act.put, List.setIfInBounds_toArray, List.set_cons_zero, List.set_cons_succ]
        refine wpAnyH_take (i := 12) (v := ?_) rfl (by kernel_rfl) (by kernel_rfl) (by kernel_rfl) (fun _ _ _ h => h) (Or.inl ⟨by rfl, ?_⟩) (by assumption) ?_
        rotate_left
        · intro w9 hSw; (try dsimp only at hSw); go_simp; try with_reducible rfl
        try simp only [List.getElem_toArray, List.getElem_cons_succ, List.getElem_cons_zero, Act.put, List.setIfInBounds_toArray, List.set_cons_zero, List.set_cons_succ]
        refine wpAnyH_take (i := 14) (v := ?_) rfl (by kernel_rfl) (by kernel_rfl) (by kernel_rfl) (fun _ _ _ h => h) (Or.inl ⟨by rfl, ?_⟩) (by assumption) ?_
        rotate_left
        · intro w9 hSw; (try dsimp only at hSw); go_simp; try with_reducible rfl
        try simp only [List.getElem_toArray, List.getElem_cons_succ, List.getElem_cons_zero, Act.put, List.setIfInBounds_toArray, List.set_cons_zero, List.set_cons_succ]
        refine wpAnyH_take (i := 15) (v := ?_) rfl (by kernel_rfl) (by kernel_rfl) (by kernel_rfl) (fun _ _ _ h => h) (Or.inl ⟨by rfl, ?_⟩) (by assumption) ?_
        rotate_left
        · intro w9 hSw; (try dsimp only at hSw); go_simp; try with_reducible rfl
        try simp only [List.getElem_toArray, List.getElem_cons_succ, List.getElem_cons_zero, Act.put, List.setIfInBounds_toArray, List.set_cons_zero, List.set_cons_succ]
        refine wpAnyH_take (i := 16) (v := ?_) rfl (by kernel_rfl) (by kernel_rfl) (by kernel_rfl) (fun _ _ _ h => h) (Or.inl ⟨by rfl, ?_⟩) (by assumption) ?_
        rotate_left
        · intro w9 hSw; (try dsimp only at hSw); go_simp; try with_reducible rfl
        try simp only [List.getElem_toArray, List.getElem_cons_succ, List.getElem_cons_zero, Act.put, List.setIfInBounds_toArray, List.set_cons_zero, List.set_cons_succ]
        refine wpAnyH_take (i := 17) (v := ?_) rfl (by kernel_rfl) (by kernel_rfl) (by kernel_rfl) (fun _ _ _ h => h) (Or.inl ⟨by rfl, ?_⟩) (by assumption) ?_
        rotate_left
        · intro w9 hSw; (try dsimp only at hSw); go_simp; try with_reducible rfl
        try simp only [List.getElem_toArray, List.getElem_cons_succ, List.getElem_cons_zero, Act.put, List.setIfInBounds_toArray, List.set_cons_zero, List.set_cons_succ]
        refine wpAnyH_take (i := 18) (v := ?_) rfl (by kernel_rfl) (by kernel_rfl) (by kernel_rfl) (fun _ _ _ h => h) (Or.inl ⟨by rfl, ?_⟩) (by assumption) ?_
        rotate_left
        · intro w9 hSw; (try dsimp only at hSw); go_simp; try with_reducible rfl
        try simp only [List.getElem_toArray, List.getElem_cons_succ, List.getElem_cons_zero, Act.put, List.setIfInBounds_toArray, List.set_cons_zero, List.set_cons_succ]
        refine wpAnyH_ready (rs := [5]) (by kernel_rfl) (by simp) ?_
        refine AllReadyH.cons rfl (fun K hK => ?_) AllReadyH.nil
        clear hHeld
        go_simp
        have hb := below_alloc v0 (.cells #[.int .i64 (i : Int)] 3)
        have c5 : (v0.alloc (.cells #[.int .i64 (i : Int)] 3)).cell? ⟨v0.heap.size, 0, none⟩ = some (.int .i64 (i : Int)) := cell_new _ _ _ rfl rfl
        have hlt5 := size_alloc' v0 (.cells #[.int .i64 (i : Int)] 3)
        obtain ⟨B5, hB5⟩ : ∃ B5 : Nat, B5 = v0.heap.size := ⟨_, rfl⟩
        rw [← hB5] at c5 hlt5 ⊢
        have hB5l : wr.heap.size ≤ B5 := by have := HC0.out.size; omega
        have HC1 := Lib.hid (HC0.out.trans (hb.mono HC0.out.size))
        generalize hwn : v0.alloc (.cells #[.int .i64 (i : Int)] 3) = v1 at *
        clear hwn hB5
        clear hb
        have H5 := Lib.hid (show ints.Reads .i64 v1 (some ⟨B5, 0, none⟩) [(i : Int)] from .inr ⟨B5, 0, rfl, hlt5, fun j hj => by (have h7 : j = 0 := by simp at hj; exact hj); subst h7; simpa using c5⟩)
        have mv1_0 := cell_below HC1.out x0_0 (by omega)
        have mv1_1 := cell_below HC1.out x0_1 (by omega)
        have mv1_2 := cell_below HC1.out hcr (by omega)
        have mv1_3 := cell_below HC1.out hlc (by omega)
        refine hK.out _ _ ?_ (fun hHeld => ?_)
        · exact ⟨mv1_0, mv1_1, mv1_2, mv1_3⟩
        clear hK K
        try simp only [List.getElem_toArray, List.getElem_cons_succ, List.getElem_cons_zero, Act.put, List.setIfInBounds_toArray, List.set_cons_zero, List.set_cons_succ]
        refine wpAnyH_ready (rs := [6]) (by kernel_rfl) (by simp) ?_
        refine AllReadyH.cons rfl (fun K hK => ?_) AllReadyH.nil
        clear hHeld
        go_simp
        refine (spec_left rows.length (some ⟨B5, 0, none⟩) [(i : Int)] 1 v1 H5.out hn (by simp)).mono ?_
        rintro e' v2 ⟨vA, rfl, hoA, hb⟩
        obtain ⟨aA, cA, rfl, hrA, _, _⟩ := hoA.slice
        have HRA := Lib.hid (show ints.Reads .i64 v2 aA (oth rows.length i) from hrA)
        have HC2 := Lib.hid (HC1.out.trans (hb.mono HC1.out.size))
        clear hb hoA hrA
        have mv2_0 := cell_below HC2.out x0_0 (by omega)
        have mv2_1 := cell_below HC2.out x0_1 (by omega)
        have mv2_2 := cell_below HC2.out hcr (by omega)
        have mv2_3 := cell_below HC2.out hlc (by omega)
        refine hK.out _ _ ?_ (fun hHeld => ?_)
        · exact ⟨mv2_0, mv2_1, mv2_2, mv2_3⟩
        clear hK K
        try simp only [List.getElem_toArray, List.getElem_cons_succ, List.getElem_cons_zero, Act.put, List.setIfInBounds_toArray, List.set_cons_zero, List.set_cons_succ]
        refine wpAnyH_ready (rs := [13]) (by kernel_rfl) (by simp) ?_
        refine AllReadyH.cons rfl (fun K hK => ?_) AllReadyH.nil
        clear hHeld
        go_simp
        refine (HCK.out aA cA v2 HC2.out HRA.out).mono ?_
        rintro e' v3 ⟨rfl, hb⟩
        have HC3 := Lib.hid (HC2.out.trans (hb.mono HC2.out.size))
        clear hb
        have mv3_0 := cell_below HC3.out x0_0 (by omega)
        have mv3_1 := cell_below HC3.out x0_1 (by omega)
        have mv3_2 := cell_below HC3.out hcr (by omega)
        have mv3_3 := cell_below HC3.out hlc (by omega)
        refine hK.out _ _ ?_ (fun hHeld => ?_)
        · exact ⟨mv3_0, mv3_1, mv3_2, mv3_3⟩
        clear hK K
        try simp only [List.getElem_toArray, List.getElem_cons_succ, List.getElem_cons_zero, Act.put, List.setIfInBounds_toArray, List.set_cons_zero, List.set_cons_succ]
        refine wpAnyH_take (i := 19) (v := ?_) rfl (by kernel_rfl) (by kernel_rfl) (by kernel_rfl) (fun _ _ _ h => h) (Or.inl ⟨by rfl, ?_⟩) (by assumption) ?_
        rotate_left
        · intro w9 hSw; (try dsimp only at hSw); go_simp; try with_reducible rfl
        try simp only [List.getElem_toArray, List.getElem_cons_succ, List.getElem_cons_zero, Act.put, List.setIfInBounds_toArray, List.set_cons_zero, List.set_cons_succ]
        refine wpAnyH_done (by kernel_rfl) ?_ _
        refine NoPanic.normal ?_
        have ho3 := ownsRow_block (w' := v3) HO.out (fun g hg => HC3.out.block g (HV.out g hg).2)
        have HB3 := Lib.hid (HBl.out.trans (HC3.out.mono hsz))
        have hz3 := HB3.out.size
        have HO3 := Lib.hid ho3
        clear ho3
        go_wp2_with fail
        go_roundw
        case rel => exact ⟨i + 1, by omega, by go_num, by rw [HM.out]; exact HO3.out, HB3.out⟩
        case measure => simp [intOf]; omega
      · skip
        have HM := Lib.hid (placesTo_hit (outB rows zs k) i hp)
        have g1 : (nlab rows zs (oth rows.length i) (rows.getD i []) k != zs.getD i 0) = true := hp
        clear hp
        generalize nlab rows zs (oth rows.length i) (rows.getD i []) k = v at *
        generalize rows.getD i [] = r at *
        generalize zs.getD i 0 = z at *
        generalize placesTo (outB rows zs k) i = ms at *
        go_wp2_with fail
        refine wp_region_noPanic ?_
        refine wp_region_held_drew (S := fun w' => w'.cell? ⟨w.heap.size, 0, none⟩ = some (.slice (some ⟨bl, off, none⟩) rows.length c) ∧ w'.cell? ⟨w.heap.size, 1, none⟩ = some (.slice (some ⟨lb, lo, none⟩) zs.length c') ∧ w'.cell? ⟨bl, off + i, none⟩ = some (.slice rp r.length rq) ∧ w'.cell? ⟨lb, lo + i, none⟩ = some (.int .i64 z)) (by kernel_rfl) ?_ (fun hHeld => ?_)
        · exact ⟨x0_0, x0_1, hcr, hlc⟩
        have hb9 : Below wr.heap.size wr wr.drew := (Below.refl _ _).drew
        have HC0 := Lib.hid hb9
        clear hb9
        generalize wr.drew = v0 at *
        refine wpAnyH_take (i := 0) (v := ?_) rfl (by kernel_rfl) (by kernel_rfl) (by kernel_rfl) (fun _ _ _ h => h) (Or.inl ⟨by rfl, ?_⟩) (by assumption) ?_
        rotate_left
        · intro w9 hSw; (try dsimp only at hSw); go_simp; try with_reducible rfl
        try simp only [List.getElem_toArray, List.getElem_cons_succ, List.getElem_cons_zero, Act.put, List.setIfInBounds_toArray, List.set_cons_zero, List.set_cons_succ]
        refine wpAnyH_take (i := 1) (v := ?_) rfl (by kernel_rfl) (by kernel_rfl) (by kernel_rfl) (fun _ _ _ h => h) (Or.inl ⟨by rfl, ?_⟩) (by assumption) ?_
        rotate_left
        · intro w9 hSw; (try dsimp only at hSw); go_simp; try with_reducible rfl
        try simp only [List.getElem_toArray, List.getElem_cons_succ, List.getElem_cons_zero, Act.put, List.setIfInBounds_toArray, List.set_cons_zero, List.set_cons_succ]
        refine wpAnyH_take (i := 2) (v := ?_) rfl (by kernel_rfl) (by kernel_rfl) (by kernel_rfl) (fun _ _ _ h => h) (Or.inl ⟨by rfl, ?_⟩) (by assumption) ?_
        rotate_left
        · intro w9 hSw; (try dsimp only at hSw); go_simp; try with_reducible rfl
        try simp only [List.getElem_toArray, List.getElem_cons_succ, List.getElem_cons_zero, Act.put, List.setIfInBounds_toArray, List.set_cons_zero, List.set_cons_succ]
        refine wpAnyH_take (i := 3) (v := ?_) rfl (by kernel_rfl) (by kernel_rfl) (by kernel_rfl) (fun _ _ _ h => h) (Or.inl ⟨by rfl, ?_⟩) (by assumption) ?_
        rotate_left
        · intro w9 hSw; (try dsimp only at hSw); go_simp; try with_reducible rfl
        try simp only [List.getElem_toArray, List.getElem_cons_succ, List.getElem_cons_zero, Act.put, List.setIfInBounds_toArray, List.set_cons_zero, List.set_cons_succ]
        refine wpAnyH_take (i := 4) (v := ?_) rfl (by kernel_rfl) (by kernel_rfl) (by kernel_rfl) (fun _ _ _ h => h) (Or.inl ⟨by rfl, ?_⟩) (by assumption) ?_
        rotate_left
        · intro w9 hSw; (try dsimp only at hSw); go_simp; try with_reducible rfl
        try simp only [List.getElem_toArray, List.getElem_cons_succ, List.getElem_cons_zero, Act.put, List.setIfInBounds_toArray, List.set_cons_zero, List.set_cons_succ]
        refine wpAnyH_take (i := 7) (v := ?_) rfl (by kernel_rfl) (by kernel_rfl) (by kernel_rfl) (fun _ _ _ h => h) (Or.inl ⟨by rfl, ?_⟩) (by assumption) ?_
        rotate_left
        · intro w9 hSw; (try dsimp only at hSw); go_simp; try with_reducible rfl
        try simp only [List.getElem_toArray, List.getElem_cons_succ, List.getElem_cons_zero, Act.put, List.setIfInBounds_toArray, List.set_cons_zero, List.set_cons_succ]
        refine wpAnyH_take (i := 8) (v := ?_) rfl (by kernel_rfl) (by kernel_rfl) (by kernel_rfl) (fun _ _ _ h => h) (Or.inl ⟨by rfl, ?_⟩) (by assumption) ?_
        rotate_left
        · intro w9 hSw; (try dsimp only at hSw); go_simp; try with_reducible rfl
        try simp only [List.getElem_toArray, List.getElem_cons_succ, List.getElem_cons_zero, Act.put, List.setIfInBounds_toArray, List.set_cons_zero, List.set_cons_succ]
        refine wpAnyH_take (i := 9) (v := ?_) rfl (by kernel_rfl) (by kernel_rfl) (by kernel_rfl) (fun _ _ _ h => h) (Or.inl ⟨by rfl, ?_⟩) (by assumption) ?_
        rotate_left
        · intro w9 hSw; (try dsimp only at hSw); go_simp; try with_reducible rfl
        try simp only [List.getElem_toArray, List.getElem_cons_succ, List.getElem_cons_zero, Act.put, List.setIfInBounds_toArray, List.set_cons_zero, List.set_cons_succ]
        refine wpAnyH_take (i := 10) (v := ?_) rfl (by kernel_rfl) (by kernel_rfl) (by kernel_rfl) (fun _ _ _ h => h) (Or.inl ⟨by rfl, ?_⟩) (by assumption) ?_
        rotate_left
        · intro w9 hSw; (try dsimp only at hSw); go_simp; try with_reducible rfl
        try simp only [List.getElem_toArray, List.getElem_cons_succ, List.getElem_cons_zero, Act.put, List.setIfInBounds_toArray, List.set_cons_zero, List.set_cons_succ]
        refine wpAnyH_take (i := 11) (v := ?_) rfl (by kernel_rfl) (by kernel_rfl) (by kernel_rfl) (fun _ _ _ h => h) (Or.inl ⟨by rfl, ?_⟩) (by assumption) ?_
        rotate_left
        · intro w9 hSw; (try dsimp only at hSw); go_simp; try with_reducible rfl
        try simp only [List.getElem_toArray, List.getElem_cons_succ, List.getElem_cons_zero, Act.put, List.setIfInBounds_toArray, List.set_cons_zero, List.set_cons_succ]
        refine wpAnyH_take (i := 12) (v := ?_) rfl (by kernel_rfl) (by kernel_rfl) (by kernel_rfl) (fun _ _ _ h => h) (Or.inl ⟨by rfl, ?_⟩) (by assumption) ?_
        rotate_left
        · intro w9 hSw; (try dsimp only at hSw); go_simp; try with_reducible rfl
        try simp only [List.getElem_toArray, List.getElem_cons_succ, List.getElem_cons_zero, Act.put, List.setIfInBounds_toArray, List.set_cons_zero, List.set_cons_succ]
        refine wpAnyH_take (i := 14) (v := ?_) rfl (by kernel_rfl) (by kernel_rfl) (by kernel_rfl) (fun _ _ _ h => h) (Or.inl ⟨by rfl, ?_⟩) (by assumption) ?_
        rotate_left
        · intro w9 hSw; (try dsimp only at hSw); go_simp; try with_reducible rfl
        try simp only [List.getElem_toArray, List.getElem_cons_succ, List.getElem_cons_zero, Act.put, List.setIfInBounds_toArray, List.set_cons_zero, List.set_cons_succ]
        refine wpAnyH_take (i := 15) (v := ?_) rfl (by kernel_rfl) (by kernel_rfl) (by kernel_rfl) (fun _ _ _ h => h) (Or.inl ⟨by rfl, ?_⟩) (by assumption) ?_
        rotate_left
        · intro w9 hSw; (try dsimp only at hSw); go_simp; try with_reducible rfl
        try simp only [List.getElem_toArray, List.getElem_cons_succ, List.getElem_cons_zero, Act.put, List.setIfInBounds_toArray, List.set_cons_zero, List.set_cons_succ]
        refine wpAnyH_take (i := 16) (v := ?_) rfl (by kernel_rfl) (by kernel_rfl) (by kernel_rfl) (fun _ _ _ h => h) (Or.inl ⟨by rfl, ?_⟩) (by assumption) ?_
        rotate_left
        · intro w9 hSw; (try dsimp only at hSw); go_simp; try with_reducible rfl
        try simp only [List.getElem_toArray, List.getElem_cons_succ, List.getElem_cons_zero, Act.put, List.setIfInBounds_toArray, List.set_cons_zero, List.set_cons_succ]
        refine wpAnyH_take (i := 17) (v := ?_) rfl (by kernel_rfl) (by kernel_rfl) (by kernel_rfl) (fun _ _ _ h => h) (Or.inl ⟨by rfl, ?_⟩) (by assumption) ?_
        rotate_left
        · intro w9 hSw; (try dsimp only at hSw); go_simp; try with_reducible rfl
        try simp only [List.getElem_toArray, List.getElem_cons_succ, List.getElem_cons_zero, Act.put, List.setIfInBounds_toArray, List.set_cons_zero, List.set_cons_succ]
        refine wpAnyH_take (i := 18) (v := ?_) rfl (by kernel_rfl) (by kernel_rfl) (by kernel_rfl) (fun _ _ _ h => h) (Or.inl ⟨by rfl, ?_⟩) (by assumption) ?_
        rotate_left
        · intro w9 hSw; (try dsimp only at hSw); go_simp; try with_reducible rfl
        try simp only [List.getElem_toArray, List.getElem_cons_succ, List.getElem_cons_zero, Act.put, List.setIfInBounds_toArray, List.set_cons_zero, List.set_cons_succ]
        refine wpAnyH_ready (rs := [5]) (by kernel_rfl) (by simp) ?_
        refine AllReadyH.cons rfl (fun K hK => ?_) AllReadyH.nil
        clear hHeld
        go_simp
        have hb := below_alloc v0 (.cells #[.int .i64 (i : Int)] 3)
        have c5 : (v0.alloc (.cells #[.int .i64 (i : Int)] 3)).cell? ⟨v0.heap.size, 0, none⟩ = some (.int .i64 (i : Int)) := cell_new _ _ _ rfl rfl
        have hlt5 := size_alloc' v0 (.cells #[.int .i64 (i : Int)] 3)
        obtain ⟨B5, hB5⟩ : ∃ B5 : Nat, B5 = v0.heap.size := ⟨_, rfl⟩
        rw [← hB5] at c5 hlt5 ⊢
        have hB5l : wr.heap.size ≤ B5 := by have := HC0.out.size; omega
        have HC1 := Lib.hid (HC0.out.trans (hb.mono HC0.out.size))
        generalize hwn : v0.alloc (.cells #[.int .i64 (i : Int)] 3) = v1 at *
        clear hwn hB5
        clear hb
        have H5 := Lib.hid (show ints.Reads .i64 v1 (some ⟨B5, 0, none⟩) [(i : Int)] from .inr ⟨B5, 0, rfl, hlt5, fun j hj => by (have h7 : j = 0 := by simp at hj; exact hj); subst h7; simpa using c5⟩)
        have mv1_0 := cell_below HC1.out x0_0 (by omega)
        have mv1_1 := cell_below HC1.out x0_1 (by omega)
        have mv1_2 := cell_below HC1.out hcr (by omega)
        have mv1_3 := cell_below HC1.out hlc (by omega)
        refine hK.out _ _ ?_ (fun hHeld => ?_)
        · exact ⟨mv1_0, mv1_1, mv1_2, mv1_3⟩
        clear hK K
        try simp only [List.getElem_toArray, List.getElem_cons_succ, List.getElem_cons_zero, Act.put, List.setIfInBounds_toArray, List.set_cons_zero, List.set_cons_succ]
        refine wpAnyH_ready (rs := [6]) (by kernel_rfl) (by simp) ?_
        refine AllReadyH.cons rfl (fun K hK => ?_) AllReadyH.nil
        clear hHeld
        go_simp
        refine (spec_left rows.length (some ⟨B5, 0, none⟩) [(i : Int)] 1 v1 H5.out hn (by simp)).mono ?_
        rintro e' v2 ⟨vA, rfl, hoA, hb⟩
        obtain ⟨aA, cA, rfl, hrA, _, _⟩ := hoA.slice
        have HRA := Lib.hid (show ints.Reads .i64 v2 aA (oth rows.length i) from hrA)
        have HC2 := Lib.hid (HC1.out.trans (hb.mono HC1.out.size))
        clear hb hoA hrA
        have mv2_0 := cell_below HC2.out x0_0 (by omega)
        have mv2_1 := cell_below HC2.out x0_1 (by omega)
        have mv2_2 := cell_below HC2.out hcr (by omega)
        have mv2_3 := cell_below HC2.out hlc (by omega)
        refine hK.out _ _ ?_ (fun hHeld => ?_)
        · exact ⟨mv2_0, mv2_1, mv2_2, mv2_3⟩
        clear hK K
        try simp only [List.getElem_toArray, List.getElem_cons_succ, List.getElem_cons_zero, Act.put, List.setIfInBounds_toArray, List.set_cons_zero, List.set_cons_succ]
        refine wpAnyH_ready (rs := [13]) (by kernel_rfl) (by simp) ?_
        refine AllReadyH.cons rfl (fun K hK => ?_) AllReadyH.nil
        clear hHeld
        go_simp
        refine (HCK.out aA cA v2 HC2.out HRA.out).mono ?_
        rintro e' v3 ⟨rfl, hb⟩
        have HC3 := Lib.hid (HC2.out.trans (hb.mono HC2.out.size))
        clear hb
        have mv3_0 := cell_below HC3.out x0_0 (by omega)
        have mv3_1 := cell_below HC3.out x0_1 (by omega)
        have mv3_2 := cell_below HC3.out hcr (by omega)
        have mv3_3 := cell_below HC3.out hlc (by omega)
        refine hK.out _ _ ?_ (fun hHeld => ?_)
        · exact ⟨mv3_0, mv3_1, mv3_2, mv3_3⟩
        clear hK K
        try simp only [List.getElem_toArray, List.getElem_cons_succ, List.getElem_cons_zero, Act.put, List.setIfInBounds_toArray, List.set_cons_zero, List.set_cons_succ]
        refine wpAnyH_take (i := 19) (v := ?_) rfl (by kernel_rfl) (by kernel_rfl) (by kernel_rfl) (fun _ _ _ h => h) (Or.inl ⟨by rfl, ?_⟩) (by assumption) ?_
        rotate_left
        · intro w9 hSw; (try dsimp only at hSw); go_simp; try with_reducible rfl
        try simp only [List.getElem_toArray, List.getElem_cons_succ, List.getElem_cons_zero, Act.put, List.setIfInBounds_toArray, List.set_cons_zero, List.set_cons_succ]
        refine wpAnyH_done (by kernel_rfl) ?_ _
        refine NoPanic.normal ?_
        have ho3 := ownsRow_block (w' := v3) HO.out (fun g hg => HC3.out.block g (HV.out g hg).2)
        have HB3 := Lib.hid (HBl.out.trans (HC3.out.mono hsz))
        have hz3 := HB3.out.size
        have hoq := ho3
        clear ho3
        go_wp2_with (at_builtin; refine wpList_append_own _ rfl _ _ 23 rfl wb1.heap.size 3 i0 (.int .i64 0) 1 8 Try.underlying23 hi hz0 hz1 hz2 rfl (by decide) _ _ _ rfl (hoq.alloc _) ⟨v3.heap.size, 0, none⟩ 1 1 [.int .i64 (i : Nat)] rfl rfl (cell_one_new _ _ _) (by simp [Value.oneCell']) (by unfold maxLen; omega) (by omega) (by simp; omega) ?_; intro v' w4 hown' hgrow _)
        obtain ⟨g', cap', hv'⟩ := ownsRow_succ hown'
        subst hv'
        have HO4 := Lib.hid hown'
        have HB4 := Lib.hid ((HB3.out.alloc hz3 _).grown hgrow (Nat.le_trans hz3 (by simp)) (fun g e => (HV.out g e).1))
        clear hoq hown' hgrow
        go_wp2_with fail
        go_roundw
        case rel => exact ⟨i + 1, by omega, by go_num, by rw [HM.out, List.map_append, List.length_append]; exact HO4.out, HB4.out⟩
        case measure => simp [intOf]; omega
    · obtain rfl : i = rows.length := by omega
      have i2 : ¬ (rows.length : Int) < (rows.length : Int) := by omega
      have HF := Lib.hid (show RetIB (placesTo (outB rows zs k) rows.length) true w (.returned (.tuple #[u6, .bool true])) wr from ⟨_, rfl, (OwnI.of hown).mono (by omega) (Nat.le_refl _), HB0.out.trans (hbel.mono (by omega))⟩)
      clear hown hbel HO2
      go_wp2_with fail
      go_ret2
      exact HF.out
set_option maxRecDepth 100000 in
set_option maxHeartbeats 1600000 in
theorem in_closure (j : Nat) (i : Nat) (g : Nat) (w : World) (y : w.cell? ⟨g, 0, none⟩ = some (.int .i64 (i : Int))) :
    Calls Try.prog 75 #[.int .i64 j, .pointer (some ⟨g, 0, none⟩)] w (fun e' w' => e' = .returned (.bool (!hasB [(i : Int)] (j : Int))) ∧ Below w.heap.size w w') := by
  rw [oth_p]
  by_cases h : j = i
  · have g1 : ((j : Int) != (i : Int)) = false := by rw [h]; simp
    rw [show (!(decide (j = i))) = false by simp [h]]
    clear h
    go_enter Try.func75, Try.ntmps75
    go_wp2_with fail
    go_ret
    exact ⟨rfl, Below.refl _ _⟩
  · have g1 : ((j : Int) != (i : Int)) = true := by simp; omega
    rw [show (!(decide (j = i))) = true by simp [h]]
    clear h
    go_enter Try.func75, Try.ntmps75
    go_wp2_with fail
    go_ret
    exact ⟨rfl, Below.refl _ _⟩
set_option maxRecDepth 100000 in
set_option maxHeartbeats 1600000 in
theorem out_closure (a : Option Addr) (rows : List (List Int)) (c : Nat) (a' : Option Addr) (zs : List Int) (c' : Nat) (k : Nat) (gs gk : Nat) (i : Nat) (w : World) (hr : grid.Reads w a rows) (hz : ints.Reads .i64 w a' zs) (y0 : w.cell? ⟨gs, 0, none⟩ = some (.slice a rows.length c)) (y1 : w.cell? ⟨gs, 1, none⟩ = some (.slice a' zs.length c')) (y2 : w.cell? ⟨gk, 0, none⟩ = some (.int .i64 (k : Int))) (hgs : gs < w.heap.size) (hgk : gk < w.heap.size) (hs : sampleB rows zs = true) (hk2 : (k : Int) ≤ (rows.length : Int) - 1) (hi9 : i < rows.length) :
    Calls Try.prog 74 #[.int .i64 i, .pointer (some ⟨gs, 0, none⟩), .pointer (some ⟨gk, 0, none⟩)] w (RetB (outB rows zs k i) w) := by
  have Hhr := Lib.hid hr
  have Hhz := Lib.hid hz
  clear hr hz
  have HS := Lib.hid hs
  have hl16 := ((sampleB_iff _ _).1 hs).1
  have HLZ := Lib.hid ((sampleB_iff _ _).1 hs).2.1
  have HLB := Lib.hid (lab_of ((sampleB_iff _ _).1 hs).2.2.1)
  clear hs
  obtain ⟨bl, off, rp, rq, hab, hbl, hcr, hpq, hrow⟩ := Hhr.out.at hi9
  subst hab
  obtain ⟨lb, lo, hlb, hll, hlc⟩ := Hhz.out.at (k := i) (by have := HLZ.out; omega)
  subst hlb
  have HRW := Lib.hid hrow
  clear hrow hpq
  go_enter Try.func74, Try.ntmps74
  obtain ⟨wb1, hw1⟩ : ∃ wb1 : World, wb1 = w.alloc (.cells #[.int .i64 (i : Int)] 3) := ⟨_, rfl⟩
  have z1 : wb1.heap.size = w.heap.size + 1 := by rw [hw1]; simp
  have x0_0 := (by rw [hw1]; exact cell_new _ _ _ rfl rfl : wb1.cell? ⟨w.heap.size, 0, none⟩ = some (.int .i64 (i : Int)))
  have HB0 := Lib.hid (show Below w.heap.size w wb1 by rw [hw1]; exact (Below.refl w.heap.size w).alloc (Nat.le_refl _) _)
  have s1 : w.heap.size + 1 ≤ wb1.heap.size := by omega
  have HZ1 := Lib.hid z1
  clear z1
  have y0a := cell_old (.cells #[.int .i64 (i : Int)] 3) y0
  replace y0 := cell_below HB0.out y0 (by omega)
  replace y1 := cell_below HB0.out y1 (by omega)
  replace y2 := cell_below HB0.out y2 (by omega)
  replace hcr := cell_below HB0.out hcr (by omega)
  replace hlc := cell_below HB0.out hlc (by omega)
  go_wp2_with fail
  rw [← hw1]
  clear hw1 y0a
  refine (where1 75 (enters_of Try.func75 (by kernel_rfl) rfl) _ rows.length (fun j => !hasB [(i : Int)] (j : Int)) wb1 (by omega) (Lib.hid fun j wr hj hb => in_closure j i w.heap.size wr (cell_below hb x0_0 (by omega)))).mono ?_
  rintro e' w2 ⟨vA, rfl, hoA, hb⟩
  obtain ⟨aA, cA, rfl, hrA, _, _⟩ := hoA.slice
  have HRA := Lib.hid (show ints.Reads .i64 w2 aA (oth rows.length i) from hrA)
  have hs2 := hb.size
  replace y0 := cell_below hb y0 (by omega)
  replace y1 := cell_below hb y1 (by omega)
  replace y2 := cell_below hb y2 (by omega)
  replace x0_0 := cell_below hb x0_0 (by omega)
  replace hcr := cell_below hb hcr (by omega)
  replace hlc := cell_below hb hlc (by omega)
  have HB2 := Lib.hid (HB0.out.trans (hb.mono (by omega)))
  clear hoA hrA hb
  go_wp2_with fail
  have HCK := Lib.hid (show ∀ wa : World, Below w2.heap.size w2 wa → Calls Try.prog 69 #[.agg #[.slice (some ⟨bl, off, none⟩) rows.length c, .slice (some ⟨lb, lo, none⟩) zs.length c'], .slice aA (oth rows.length i).length cA, .slice rp (rows.getD i []).length rq, .int .i64 k] wa (RetN (nlab rows zs (oth rows.length i) (rows.getD i []) k) wa) from fun wa hb => impl_nlab _ rows c _ zs c' aA _ cA rp (rows.getD i []) rq k wa ((Hhr.out.below HB2.out).below hb) ((Hhz.out.below HB2.out).below hb) (HRA.out.below hb) ((HRW.out.below HB2.out).below hb) (oth_nbr HS.out i hi9) HLB.out HLZ.out (by rw [oth_length, if_pos hi9]; omega))
  rw [show (placesTo (fun j => !hasB [(i : Int)] (j : Int)) rows.length).length = (oth rows.length i).length from rfl]
  have HV := Lib.hid (show outB rows zs k i = (nlab rows zs (oth rows.length i) (rows.getD i []) k != zs.getD i 0) from rfl)
  have i1 : (0 : Int) ≤ (i : Int) := by omega
  have i2 : (i : Int) < (rows.length : Int) := by omega
  have i3 : (i : Int) < (zs.length : Int) := by have := HLZ.out; omega
  clear HRW
  generalize outB rows zs k i = ok at *
  generalize nlab rows zs (oth rows.length i) (rows.getD i []) k = v at *
  generalize rows.getD i [] = r at *
  generalize zs.getD i 0 = z at *
  refine wp_region_noPanic ?_
  refine wp_region_held_drew (S := fun w' => w'.cell? ⟨gs, 0, none⟩ = some (.slice (some ⟨bl, off, none⟩) rows.length c) ∧ w'.cell? ⟨gs, 1, none⟩ = some (.slice (some ⟨lb, lo, none⟩) zs.length c') ∧ w'.cell? ⟨gk, 0, none⟩ = some (.int .i64 (k : Int)) ∧ w'.cell? ⟨w.heap.size, 0, none⟩ = some (.int .i64 (i : Int)) ∧ w'.cell? ⟨bl, off + i, none⟩ = some (.slice rp r.length rq) ∧ w'.cell? ⟨lb, lo + i, none⟩ = some (.int .i64 z)) (by kernel_rfl) ?_ (fun hHeld => ?_)
  · exact ⟨y0, y1, y2, x0_0, hcr, hlc⟩
  refine wpAnyH_take (i := 0) (v := ?_) rfl (by kernel_rfl) (by kernel_rfl) (by kernel_rfl) (fun _ _ _ h => h) (Or.inl ⟨by rfl, ?_⟩) (by assumption) ?_
  rotate_left
  · intro w9 hSw; (try dsimp only at hSw); go_simp; try with_reducible rfl
  try simp only [List.getElem_toArray, List.getElem_cons_succ, List.getElem_cons_zero, Act.put, List.setIfInBounds_toArray, List.set_cons_zero, List.set_cons_succ]
  refine wpAnyH_take (i := 1) (v := ?_) rfl (by kernel_rfl) (by kernel_rfl) (by kernel_rfl) (fun _ _ _ h => h) (Or.inl ⟨by rfl, ?_⟩) (by assumption) ?_
  rotate_left
  · intro w9 hSw; (try dsimp only at hSw); go_simp; try with_reducible rfl
  try simp only [List.getElem_toArray, List.getElem_cons_succ, List.getElem_cons_zero, Act.put, List.setIfInBounds_toArray, List.set_cons_zero, List.set_cons_succ]
  refine wpAnyH_take (i := 2) (v := ?_) rfl (by kernel_rfl) (by kernel_rfl) (by kernel_rfl) (fun _ _ _ h => h) (Or.inl ⟨by rfl, ?_⟩) (by assumption) ?_
  rotate_left
  · intro w9 hSw; (try dsimp only at hSw); go_simp; try with_reducible rfl
  try simp only [List.getElem_toArray, List.getElem_cons_succ, List.getElem_cons_zero, Act.put, List.setIfInBounds_toArray, List.set_cons_zero, List.set_cons_succ]
  refine wpAnyH_take (i := 3) (v := ?_) rfl (by kernel_rfl) (by kernel_rfl) (by kernel_rfl) (fun _ _ _ h => h) (Or.inl ⟨by rfl, ?_⟩) (by assumption) ?_
  rotate_left
  · intro w9 hSw; (try dsimp only at hSw); go_simp; try with_reducible rfl
  try simp only [List.getElem_toArray, List.getElem_cons_succ, List.getElem_cons_zero, Act.put, List.setIfInBounds_toArray, List.set_cons_zero, List.set_cons_succ]
  refine wpAnyH_take (i := 4) (v := ?_) rfl (by kernel_rfl) (by kernel_rfl) (by kernel_rfl) (fun _ _ _ h => h) (Or.inl ⟨by rfl, ?_⟩) (by assumption) ?_
  rotate_left
  · intro w9 hSw; (try dsimp only at hSw); go_simp; try with_reducible rfl
  try simp only [List.getElem_toArray, List.getElem_cons_succ, List.getElem_cons_zero, Act.put, List.setIfInBounds_toArray, List.set_cons_zero, List.set_cons_succ]
  refine wpAnyH_take (i := 5) (v := ?_) rfl (by kernel_rfl) (by kernel_rfl) (by kernel_rfl) (fun _ _ _ h => h) (Or.inl ⟨by rfl, ?_⟩) (by assumption) ?_
  rotate_left
  · intro w9 hSw; (try dsimp only at hSw); go_simp; try with_reducible rfl
  try simp only [List.getElem_toArray, List.getElem_cons_succ, List.getElem_cons_zero, Act.put, List.setIfInBounds_toArray, List.set_cons_zero, List.set_cons_succ]
  refine wpAnyH_take (i := 6) (v := ?_) rfl (by kernel_rfl) (by kernel_rfl) (by kernel_rfl) (fun _ _ _ h => h) (Or.inl ⟨by rfl, ?_⟩) (by assumption) ?_
  rotate_left
  · intro w9 hSw; (try dsimp only at hSw); go_simp; try with_reducible rfl
  try simp only [List.getElem_toArray, List.getElem_cons_succ, List.getElem_cons_zero, Act.put, List.setIfInBounds_toArray, List.set_cons_zero, List.set_cons_succ]
  refine wpAnyH_take (i := 7) (v := ?_) rfl (by kernel_rfl) (by kernel_rfl) (by kernel_rfl) (fun _ _ _ h => h) (Or.inl ⟨by rfl, ?_⟩) (by assumption) ?_
  rotate_left
  · intro w9 hSw; (try dsimp only at hSw); go_simp; try with_reducible rfl
  try simp only [List.getElem_toArray, List.getElem_cons_succ, List.getElem_cons_zero, Act.put, List.setIfInBounds_toArray, List.set_cons_zero, List.set_cons_succ]
  refine wpAnyH_take (i := 9) (v := ?_) rfl (by kernel_rfl) (by kernel_rfl) (by kernel_rfl) (fun _ _ _ h => h) (Or.inl ⟨by rfl, ?_⟩) (by assumption) ?_
  rotate_left
  · intro w9 hSw; (try dsimp only at hSw); go_simp; try with_reducible rfl
  try simp only [List.getElem_toArray, List.getElem_cons_succ, List.getElem_cons_zero, Act.put, List.setIfInBounds_toArray, List.set_cons_zero, List.set_cons_succ]
  refine wpAnyH_take (i := 10) (v := ?_) rfl (by kernel_rfl) (by kernel_rfl) (by kernel_rfl) (fun _ _ _ h => h) (Or.inl ⟨by rfl, ?_⟩) (by assumption) ?_
  rotate_left
  · intro w9 hSw; (try dsimp only at hSw); go_simp; try with_reducible rfl
  try simp only [List.getElem_toArray, List.getElem_cons_succ, List.getElem_cons_zero, Act.put, List.setIfInBounds_toArray, List.set_cons_zero, List.set_cons_succ]
  refine wpAnyH_take (i := 11) (v := ?_) rfl (by kernel_rfl) (by kernel_rfl) (by kernel_rfl) (fun _ _ _ h => h) (Or.inl ⟨by rfl, ?_⟩) (by assumption) ?_
  rotate_left
  · intro w9 hSw; (try dsimp only at hSw); go_simp; try with_reducible rfl
  try simp only [List.getElem_toArray, List.getElem_cons_succ, List.getElem_cons_zero, Act.put, List.setIfInBounds_toArray, List.set_cons_zero, List.set_cons_succ]
  refine wpAnyH_take (i := 12) (v := ?_) rfl (by kernel_rfl) (by kernel_rfl) (by kernel_rfl) (fun _ _ _ h => h) (Or.inl ⟨by rfl, ?_⟩) (by assumption) ?_
  rotate_left
  · intro w9 hSw; (try dsimp only at hSw); go_simp; try with_reducible rfl
  try simp only [List.getElem_toArray, List.getElem_cons_succ, List.getElem_cons_zero, Act.put, List.setIfInBounds_toArray, List.set_cons_zero, List.set_cons_succ]
  refine wpAnyH_take (i := 13) (v := ?_) rfl (by kernel_rfl) (by kernel_rfl) (by kernel_rfl) (fun _ _ _ h => h) (Or.inl ⟨by rfl, ?_⟩) (by assumption) ?_
  rotate_left
  · intro w9 hSw; (try dsimp only at hSw); go_simp; try with_reducible rfl
  try simp only [List.getElem_toArray, List.getElem_cons_succ, List.getElem_cons_zero, Act.put, List.setIfInBounds_toArray, List.set_cons_zero, List.set_cons_succ]
  refine wpAnyH_ready (rs := [8]) (by kernel_rfl) (by simp) ?_
  refine AllReadyH.cons rfl (fun K hK => ?_) AllReadyH.nil
  clear hHeld
  go_simp
  refine (HCK.out _ (Below.refl _ _).drew).mono ?_
  rintro e' v1 ⟨rfl, hb1⟩
  have HC1 := Lib.hid ((Below.refl w2.heap.size w2).drew.trans hb1)
  clear hb1
  have m0 := cell_below HC1.out y0 (by omega)
  have m1 := cell_below HC1.out y1 (by omega)
  have m2 := cell_below HC1.out y2 (by omega)
  have m3 := cell_below HC1.out x0_0 (by omega)
  have m4 := cell_below HC1.out hcr (by omega)
  have m5 := cell_below HC1.out hlc (by omega)
  refine hK.out _ _ ?_ (fun hHeld => ?_)
  · exact ⟨m0, m1, m2, m3, m4, m5⟩
  clear hK K
  try simp only [List.getElem_toArray, List.getElem_cons_succ, List.getElem_cons_zero, Act.put, List.setIfInBounds_toArray, List.set_cons_zero, List.set_cons_succ]
  refine wpAnyH_take (i := 14) (v := ?_) rfl (by kernel_rfl) (by kernel_rfl) (by kernel_rfl) (fun _ _ _ h => h) (Or.inl ⟨by rfl, ?_⟩) (by assumption) ?_
  rotate_left
  · intro w9 hSw; (try dsimp only at hSw); go_simp; try with_reducible rfl
  try simp only [List.getElem_toArray, List.getElem_cons_succ, List.getElem_cons_zero, Act.put, List.setIfInBounds_toArray, List.set_cons_zero, List.set_cons_succ]
  refine wpAnyH_take (i := 15) (v := ?_) rfl (by kernel_rfl) (by kernel_rfl) (by kernel_rfl) (fun _ _ _ h => h) (Or.inl ⟨by rfl, ?_⟩) (by assumption) ?_
  rotate_left
  · intro w9 hSw; (try dsimp only at hSw); go_simp; try with_reducible rfl
  try simp only [List.getElem_toArray, List.getElem_cons_succ, List.getElem_cons_zero, Act.put, List.setIfInBounds_toArray, List.set_cons_zero, List.set_cons_succ]
  refine wpAnyH_done (by kernel_rfl) ?_ _
  refine NoPanic.normal ?_
  have HF := Lib.hid (show RetB ok w (.returned (.bool (v != z))) v1 from ⟨by rw [HV.out], HB2.out.trans (HC1.out.mono (by omega))⟩)
  go_wp2_with fail
  go_ret
  exact HF.out
set_option maxRecDepth 100000 in
set_option maxHeartbeats 1600000 in
theorem impl_lo_no (a : Option Addr) (rows : List (List Int)) (c : Nat) (a' : Option Addr) (zs : List Int) (c' : Nat) (k : Int) (w : World) (hr : grid.Reads w a rows) (hz : ints.Reads .i64 w a' zs) (hn : rows.length ≤ 1048576) (hk : zs.length ≤ 1048576) (hm : ∀ r ∈ rows, r.length ≤ 1048576) (h : loB rows zs k = false) :
    Calls Try.prog 28 #[.agg #[.slice a rows.length c, .slice a' zs.length c'], .int .i64 k] w (RetIB [] false w) := by
  have Hhr := Lib.hid hr
  have Hhz := Lib.hid hz
  have Hhm := Lib.hid hm
  clear hr hz hm
  have e1 : IntKind.i64.wrap ((rows.length : Int) - 1) = (rows.length : Int) - 1 := IntWalk.i64_in _ (by omega)
  cases hs : sampleB rows zs
  · have HS := Lib.hid hs
    clear h hs
    go_enter Try.func28, Try.ntmps28
    obtain ⟨wb1, hw1⟩ : ∃ wb1 : World, wb1 = w.alloc (.cells #[.slice a rows.length c, .slice a' zs.length c'] 29) := ⟨_, rfl⟩
    obtain ⟨wb2, hw2⟩ : ∃ wb2 : World, wb2 = wb1.alloc (.cells #[.int .i64 k] 3) := ⟨_, rfl⟩
    have z1 : wb1.heap.size = w.heap.size + 1 := by rw [hw1]; simp
    have z2 : wb2.heap.size = w.heap.size + 2 := by rw [hw2]; simp; omega
    have x0_0 := (by rw [hw2]; exact cell_old _ (by rw [hw1]; exact cell_new _ _ _ rfl rfl : wb1.cell? ⟨w.heap.size, 0, none⟩ = some (.slice a rows.length c)) : wb2.cell? ⟨w.heap.size, 0, none⟩ = some (.slice a rows.length c))
    have x0_1 := (by rw [hw2]; exact cell_old _ (by rw [hw1]; exact cell_new _ _ _ rfl rfl : wb1.cell? ⟨w.heap.size, 1, none⟩ = some (.slice a' zs.length c')) : wb2.cell? ⟨w.heap.size, 1, none⟩ = some (.slice a' zs.length c'))
    have x1_0 := (by rw [hw2]; exact cell_new _ _ _ z1.symm rfl : wb2.cell? ⟨w.heap.size + 1, 0, none⟩ = some (.int .i64 k))
    have HB0 := Lib.hid (show Below w.heap.size w wb2 by rw [hw2]; exact (show Below w.heap.size w wb1 by rw [hw1]; exact (Below.refl w.heap.size w).alloc (Nat.le_refl _) _).alloc (by omega) _)
    have s2 : w.heap.size + 2 ≤ wb2.heap.size := by omega
    have HZ2 := Lib.hid z2
    clear z1 z2
    go_wp2_with fail
    rw [← hw1, ← hw2]
    clear hw1 hw2
    refine (impl_sample a rows c a' zs c' wb2 (Hhr.out.below HB0.out) (Hhz.out.below HB0.out) hn hk Hhm.out false HS).mono ?_
    rintro e' w3 ⟨rfl, hb⟩
    replace x0_0 := cell_below hb x0_0 (by omega)
    replace x0_1 := cell_below hb x0_1 (by omega)
    replace x1_0 := cell_below hb x1_0 (by omega)
    have s3 := hb.size
    have HB2 := Lib.hid (HB0.out.trans (hb.mono HB0.out.size))
    clear hb
    go_wp2_with fail
    go_ret2
    exact ret_empty HB2.out
  have HS := Lib.hid hs
  have hr9 : (decide (1 ≤ k) && decide (k ≤ (rows.length : Int) - 1)) = false := by rw [← h]; unfold loB; rw [hs, Bool.true_and]
  by_cases h1 : k < 1
  · have g1 : decide (k < 1) = true := by simpa using h1
    clear h hs hr9 h1
    go_enter Try.func28, Try.ntmps28
    obtain ⟨wb1, hw1⟩ : ∃ wb1 : World, wb1 = w.alloc (.cells #[.slice a rows.length c, .slice a' zs.length c'] 29) := ⟨_, rfl⟩
    obtain ⟨wb2, hw2⟩ : ∃ wb2 : World, wb2 = wb1.alloc (.cells #[.int .i64 k] 3) := ⟨_, rfl⟩
    have z1 : wb1.heap.size = w.heap.size + 1 := by rw [hw1]; simp
    have z2 : wb2.heap.size = w.heap.size + 2 := by rw [hw2]; simp; omega
    have x0_0 := (by rw [hw2]; exact cell_old _ (by rw [hw1]; exact cell_new _ _ _ rfl rfl : wb1.cell? ⟨w.heap.size, 0, none⟩ = some (.slice a rows.length c)) : wb2.cell? ⟨w.heap.size, 0, none⟩ = some (.slice a rows.length c))
    have x0_1 := (by rw [hw2]; exact cell_old _ (by rw [hw1]; exact cell_new _ _ _ rfl rfl : wb1.cell? ⟨w.heap.size, 1, none⟩ = some (.slice a' zs.length c')) : wb2.cell? ⟨w.heap.size, 1, none⟩ = some (.slice a' zs.length c'))
    have x1_0 := (by rw [hw2]; exact cell_new _ _ _ z1.symm rfl : wb2.cell? ⟨w.heap.size + 1, 0, none⟩ = some (.int .i64 k))
    have HB0 := Lib.hid (show Below w.heap.size w wb2 by rw [hw2]; exact (show Below w.heap.size w wb1 by rw [hw1]; exact (Below.refl w.heap.size w).alloc (Nat.le_refl _) _).alloc (by omega) _)
    have s2 : w.heap.size + 2 ≤ wb2.heap.size := by omega
    have HZ2 := Lib.hid z2
    clear z1 z2
    go_wp2_with fail
    rw [← hw1, ← hw2]
    clear hw1 hw2
    refine (impl_sample a rows c a' zs c' wb2 (Hhr.out.below HB0.out) (Hhz.out.below HB0.out) hn hk Hhm.out true HS).mono ?_
    rintro e' w3 ⟨rfl, hb⟩
    replace x0_0 := cell_below hb x0_0 (by omega)
    replace x0_1 := cell_below hb x0_1 (by omega)
    replace x1_0 := cell_below hb x1_0 (by omega)
    have s3 := hb.size
    have HB2 := Lib.hid (HB0.out.trans (hb.mono HB0.out.size))
    clear hb
    go_wp2_with fail
    go_ret2
    exact ret_empty HB2.out
  · have g1 : decide (k < 1) = false := by simpa using h1
    have g2 : decide ((rows.length : Int) - 1 < k) = true := by
      rw [show decide (1 ≤ k) = true from decide_eq_true (by omega), Bool.true_and] at hr9
      have := of_decide_eq_false hr9
      exact decide_eq_true (by omega)
    clear h hs hr9 h1
    go_enter Try.func28, Try.ntmps28
    obtain ⟨wb1, hw1⟩ : ∃ wb1 : World, wb1 = w.alloc (.cells #[.slice a rows.length c, .slice a' zs.length c'] 29) := ⟨_, rfl⟩
    obtain ⟨wb2, hw2⟩ : ∃ wb2 : World, wb2 = wb1.alloc (.cells #[.int .i64 k] 3) := ⟨_, rfl⟩
    have z1 : wb1.heap.size = w.heap.size + 1 := by rw [hw1]; simp
    have z2 : wb2.heap.size = w.heap.size + 2 := by rw [hw2]; simp; omega
    have x0_0 := (by rw [hw2]; exact cell_old _ (by rw [hw1]; exact cell_new _ _ _ rfl rfl : wb1.cell? ⟨w.heap.size, 0, none⟩ = some (.slice a rows.length c)) : wb2.cell? ⟨w.heap.size, 0, none⟩ = some (.slice a rows.length c))
    have x0_1 := (by rw [hw2]; exact cell_old _ (by rw [hw1]; exact cell_new _ _ _ rfl rfl : wb1.cell? ⟨w.heap.size, 1, none⟩ = some (.slice a' zs.length c')) : wb2.cell? ⟨w.heap.size, 1, none⟩ = some (.slice a' zs.length c'))
    have x1_0 := (by rw [hw2]; exact cell_new _ _ _ z1.symm rfl : wb2.cell? ⟨w.heap.size + 1, 0, none⟩ = some (.int .i64 k))
    have HB0 := Lib.hid (show Below w.heap.size w wb2 by rw [hw2]; exact (show Below w.heap.size w wb1 by rw [hw1]; exact (Below.refl w.heap.size w).alloc (Nat.le_refl _) _).alloc (by omega) _)
    have s2 : w.heap.size + 2 ≤ wb2.heap.size := by omega
    have HZ2 := Lib.hid z2
    clear z1 z2
    go_wp2_with fail
    rw [← hw1, ← hw2]
    clear hw1 hw2
    refine (impl_sample a rows c a' zs c' wb2 (Hhr.out.below HB0.out) (Hhz.out.below HB0.out) hn hk Hhm.out true HS).mono ?_
    rintro e' w3 ⟨rfl, hb⟩
    replace x0_0 := cell_below hb x0_0 (by omega)
    replace x0_1 := cell_below hb x0_1 (by omega)
    replace x1_0 := cell_below hb x1_0 (by omega)
    have s3 := hb.size
    have HB2 := Lib.hid (HB0.out.trans (hb.mono HB0.out.size))
    clear hb
    go_wp2_with fail
    go_ret2
    exact ret_empty HB2.out
set_option maxRecDepth 100000 in
set_option maxHeartbeats 1600000 in
theorem impl_lo_yes (a : Option Addr) (rows : List (List Int)) (c : Nat) (a' : Option Addr) (zs : List Int) (c' : Nat) (k : Nat) (w : World) (hr : grid.Reads w a rows) (hz : ints.Reads .i64 w a' zs) (hn : rows.length ≤ 1048576) (hk : zs.length ≤ 1048576) (hm : ∀ r ∈ rows, r.length ≤ 1048576) (h : loB rows zs (k : Int) = true) :
    Calls Try.prog 28 #[.agg #[.slice a rows.length c, .slice a' zs.length c'], .int .i64 k] w (RetIB (placesTo (outB rows zs k) rows.length) true w) := by
  have Hhr := Lib.hid hr
  have Hhz := Lib.hid hz
  have Hhm := Lib.hid hm
  clear hr hz hm
  have e1 : IntKind.i64.wrap ((rows.length : Int) - 1) = (rows.length : Int) - 1 := IntWalk.i64_in _ (by omega)
  obtain ⟨hs, hk1, hk2⟩ := (loB_iff _ _ _).1 h
  have HS := Lib.hid hs
  have g1 : decide ((k : Int) < 1) = false := decide_eq_false (by omega)
  have g2 : decide ((rows.length : Int) - 1 < (k : Int)) = false := decide_eq_false (by omega)
  clear h hs
  go_enter Try.func28, Try.ntmps28
  obtain ⟨wb1, hw1⟩ : ∃ wb1 : World, wb1 = w.alloc (.cells #[.slice a rows.length c, .slice a' zs.length c'] 29) := ⟨_, rfl⟩
  obtain ⟨wb2, hw2⟩ : ∃ wb2 : World, wb2 = wb1.alloc (.cells #[.int .i64 k] 3) := ⟨_, rfl⟩
  have z1 : wb1.heap.size = w.heap.size + 1 := by rw [hw1]; simp
  have z2 : wb2.heap.size = w.heap.size + 2 := by rw [hw2]; simp; omega
  have x0_0 := (by rw [hw2]; exact cell_old _ (by rw [hw1]; exact cell_new _ _ _ rfl rfl : wb1.cell? ⟨w.heap.size, 0, none⟩ = some (.slice a rows.length c)) : wb2.cell? ⟨w.heap.size, 0, none⟩ = some (.slice a rows.length c))
  have x0_1 := (by rw [hw2]; exact cell_old _ (by rw [hw1]; exact cell_new _ _ _ rfl rfl : wb1.cell? ⟨w.heap.size, 1, none⟩ = some (.slice a' zs.length c')) : wb2.cell? ⟨w.heap.size, 1, none⟩ = some (.slice a' zs.length c'))
  have x1_0 := (by rw [hw2]; exact cell_new _ _ _ z1.symm rfl : wb2.cell? ⟨w.heap.size + 1, 0, none⟩ = some (.int .i64 k))
  have HB0 := Lib.hid (show Below w.heap.size w wb2 by rw [hw2]; exact (show Below w.heap.size w wb1 by rw [hw1]; exact (Below.refl w.heap.size w).alloc (Nat.le_refl _) _).alloc (by omega) _)
  have s2 : w.heap.size + 2 ≤ wb2.heap.size := by omega
  have HZ2 := Lib.hid z2
  clear z1 z2
  go_wp2_with fail
  rw [← hw1, ← hw2]
  clear hw1 hw2
  refine (impl_sample a rows c a' zs c' wb2 (Hhr.out.below HB0.out) (Hhz.out.below HB0.out) hn hk Hhm.out true HS).mono ?_
  rintro e' w3 ⟨rfl, hb⟩
  replace x0_0 := cell_below hb x0_0 (by omega)
  replace x0_1 := cell_below hb x0_1 (by omega)
  replace x1_0 := cell_below hb x1_0 (by omega)
  have s3 := hb.size
  have HB2 := Lib.hid (HB0.out.trans (hb.mono HB0.out.size))
  clear hb
  go_wp2_with fail
  refine (where2 74 (enters_of Try.func74 (by kernel_rfl) rfl) _ _ rows.length (outB rows zs k) w3 hn (Lib.hid fun i wr hi9 hb9 => out_closure a rows c a' zs c' k w.heap.size (w.heap.size + 1) i wr ((Hhr.out.below HB2.out).below hb9) ((Hhz.out.below HB2.out).below hb9) (cell_below hb9 x0_0 (by omega)) (cell_below hb9 x0_1 (by omega)) (cell_below hb9 x1_0 (by omega)) (by have := hb9.size; omega) (by have := hb9.size; omega) HS.out hk2 hi9)).mono ?_
  rintro e' w4 ⟨v4, rfl, ho, hb⟩
  have HF := Lib.hid (show RetIB (placesTo (outB rows zs k) rows.length) true w (.returned (.tuple #[v4, .bool true])) w4 from ⟨_, rfl, ho.mono (by omega) (Nat.le_refl _), HB2.out.trans (hb.mono HB2.out.size)⟩)
  clear ho hb
  go_wp2_with fail
  go_ret2
  exact HF.out
end Go.Proofs.Ytkbcofgigfnfaaa.lefto
