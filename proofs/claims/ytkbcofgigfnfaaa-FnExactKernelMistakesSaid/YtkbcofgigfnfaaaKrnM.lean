/- The places of wrong points. -/
import Derived.Test.YtkbcofgigfnfaaaKrnT
import Derived.Deep.RegionHeld3
import Derived.Deep.DrawnRows
namespace Go.Proofs.Ytkbcofgigfnfaaa.krnm
open Go.RowKit own pp nums squares dots kern range fitsp force samplesv samplest cntb mk pwh krnt
set_option linter.unusedVariables false
set_option linter.unusedSimpArgs false

set_option maxRecDepth 100000 in
set_option maxHeartbeats 1600000 in
theorem spec_kmis_no (a : Option Addr) (rows : List (List Int)) (c : Nat) (a' : Option Addr) (zs : List Int) (c' : Nat) (e : Option Addr) (cs : List Int) (d : Nat) (n : Int) (w : World) (hr : grid.Reads w a rows) (hz : ints.Reads .i64 w a' zs) (hc : ints.Reads .i64 w e cs) (hn : rows.length ≤ 1048576) (hk : zs.length ≤ 1048576) (hm : ∀ r ∈ rows, r.length ≤ 1048576) (hcn : cs.length ≤ 1048576) (h : cntB rows zs cs n = false) :
    Calls Try.prog 42 #[.agg #[.slice a rows.length c, .slice a' zs.length c'], .slice e cs.length d, .int .i64 n] w (RetIB [] false w) := by
  have Hhr := Lib.hid hr
  have Hhz := Lib.hid hz
  have Hhc := Lib.hid hc
  have Hhm := Lib.hid hm
  clear hr hz hc hm
  have HC := Lib.hid h
  clear h
  go_enter Try.func42, Try.ntmps42
  obtain ⟨wb1, hw1⟩ : ∃ wb1 : World, wb1 = w.alloc (.cells #[.slice a rows.length c, .slice a' zs.length c'] 29) := ⟨_, rfl⟩
  have z1 : wb1.heap.size = w.heap.size + 1 := by rw [hw1]; simp
  have x0_0 := (by rw [hw1]; exact cell_new _ _ _ rfl rfl : wb1.cell? ⟨w.heap.size, 0, none⟩ = some (.slice a rows.length c))
  have x0_1 := (by rw [hw1]; exact cell_new _ _ _ rfl rfl : wb1.cell? ⟨w.heap.size, 1, none⟩ = some (.slice a' zs.length c'))
  have HB0 := Lib.hid (show Below w.heap.size w wb1 by rw [hw1]; exact (Below.refl w.heap.size w).alloc (Nat.le_refl _) _)
  have s1 : w.heap.size + 1 ≤ wb1.heap.size := by omega
  have HZ1 := Lib.hid z1
  clear z1
  go_wp2_with fail
  rw [← hw1]
  clear hw1
  obtain ⟨wc, hwc⟩ : ∃ wc : World, wc = wb1.alloc (.cells #[] 3) := ⟨_, rfl⟩
  have hown0 : wc.ownsRow wb1.heap.size 3 1 (.slice (some ⟨wb1.heap.size, 0, none⟩) 0 0) 0 [] := by rw [hwc]; exact (own_empty wb1).1
  have hbc : Below wb1.heap.size wb1 wc := by rw [hwc]; exact below_alloc _ _
  rw [show w.heap.size + 1 = wb1.heap.size from HZ1.out.symm]
  rw [← hwc]
  clear hwc
  have sc := hbc.size
  replace x0_0 := cell_below hbc x0_0 (by omega)
  replace x0_1 := cell_below hbc x0_1 (by omega)
  have HBC := Lib.hid (HB0.out.trans (hbc.mono (by omega)))
  refine (spec_cnt a rows c a' zs c' e cs d n wc (Hhr.out.below HBC.out) (Hhz.out.below HBC.out) (Hhc.out.below HBC.out) hn hk Hhm.out hcn false HC).mono ?_
  rintro e' w2 ⟨rfl, hb⟩
  have s2 := hb.size
  have ho2 := ownsRow_block (w' := w2) hown0 (fun g hg => hb.block g (hown0.lt g hg).2)
  replace x0_0 := cell_below hb x0_0 (by omega)
  replace x0_1 := cell_below hb x0_1 (by omega)
  have HB2 := Lib.hid (hbc.trans (hb.mono sc))
  have HBW := Lib.hid (HBC.out.trans (hb.mono HBC.out.size))
  clear hb hown0 hbc
  have HF := Lib.hid (show RetIB [] false w (.returned (.tuple #[.slice (some ⟨wb1.heap.size, 0, none⟩) 0 0, .bool false])) w2 from ⟨_, rfl, (OwnI.of ho2).mono (by omega) (Nat.le_refl _), HBW.out⟩)
  clear ho2
  go_wp2_with fail
  go_ret2
  exact HF.out
set_option maxRecDepth 100000 in
set_option maxHeartbeats 1600000 in
theorem spec_kmis_yes (a : Option Addr) (rows : List (List Int)) (c : Nat) (a' : Option Addr) (zs : List Int) (c' : Nat) (e : Option Addr) (cs : List Int) (d : Nat) (n : Int) (w : World) (hr : grid.Reads w a rows) (hz : ints.Reads .i64 w a' zs) (hc : ints.Reads .i64 w e cs) (hn : rows.length ≤ 1048576) (hk : zs.length ≤ 1048576) (hm : ∀ r ∈ rows, r.length ≤ 1048576) (hcn : cs.length ≤ 1048576) (h : cntB rows zs cs n = true) :
    Calls Try.prog 42 #[.agg #[.slice a rows.length c, .slice a' zs.length c'], .slice e cs.length d, .int .i64 n] w (RetIB (placesTo (wrongB rows zs cs n) rows.length) true w) := by
  obtain ⟨i0, hi, hz0, hz1, hz2⟩ := info_parts mk.infoInt
  have Hhr := Lib.hid hr
  have Hhz := Lib.hid hz
  have Hhc := Lib.hid hc
  have Hhm := Lib.hid hm
  clear hr hz hc hm
  have HC := Lib.hid h
  have hl16 := ((sampleB_iff _ _).1 ((cntB_iff _ _ _ _).1 h).1).1
  have HLC := Lib.hid ((cntB_iff _ _ _ _).1 h).2.1
  clear h
  go_enter Try.func42, Try.ntmps42
  obtain ⟨wb1, hw1⟩ : ∃ wb1 : World, wb1 = w.alloc (.cells #[.slice a rows.length c, .slice a' zs.length c'] 29) := ⟨_, rfl⟩
  have z1 : wb1.heap.size = w.heap.size + 1 := by rw [hw1]; simp
  have x0_0 := (by rw [hw1]; exact cell_new _ _ _ rfl rfl : wb1.cell? ⟨w.heap.size, 0, none⟩ = some (.slice a rows.length c))
  have x0_1 := (by rw [hw1]; exact cell_new _ _ _ rfl rfl : wb1.cell? ⟨w.heap.size, 1, none⟩ = some (.slice a' zs.length c'))
  have HB0 := Lib.hid (show Below w.heap.size w wb1 by rw [hw1]; exact (Below.refl w.heap.size w).alloc (Nat.le_refl _) _)
  have s1 : w.heap.size + 1 ≤ wb1.heap.size := by omega
  have HZ1 := Lib.hid z1
  clear z1
  go_wp2_with fail
  rw [← hw1]
  clear hw1
  have x00 := x0_0
  have x01 := x0_1
  obtain ⟨wc, hwc⟩ : ∃ wc : World, wc = wb1.alloc (.cells #[] 3) := ⟨_, rfl⟩
  have hown0 : wc.ownsRow wb1.heap.size 3 1 (.slice (some ⟨wb1.heap.size, 0, none⟩) 0 0) 0 [] := by rw [hwc]; exact (own_empty wb1).1
  have hbc : Below wb1.heap.size wb1 wc := by rw [hwc]; exact below_alloc _ _
  rw [show w.heap.size + 1 = wb1.heap.size from HZ1.out.symm]
  rw [← hwc]
  clear hwc
  have sc := hbc.size
  replace x0_0 := cell_below hbc x0_0 (by omega)
  replace x0_1 := cell_below hbc x0_1 (by omega)
  have HBC := Lib.hid (HB0.out.trans (hbc.mono (by omega)))
  refine (spec_cnt a rows c a' zs c' e cs d n wc (Hhr.out.below HBC.out) (Hhz.out.below HBC.out) (Hhc.out.below HBC.out) hn hk Hhm.out hcn true HC).mono ?_
  rintro e' w2 ⟨rfl, hb⟩
  have s2 := hb.size
  have ho2 := ownsRow_block (w' := w2) hown0 (fun g hg => hb.block g (hown0.lt g hg).2)
  replace x0_0 := cell_below hb x0_0 (by omega)
  replace x0_1 := cell_below hb x0_1 (by omega)
  have HB2 := Lib.hid (hbc.trans (hb.mono sc))
  have HBW := Lib.hid (HBC.out.trans (hb.mono HBC.out.size))
  clear hb hown0 hbc
  have HO2 := Lib.hid ho2
  clear ho2
  have xx0 := x00
  have xx1 := x01
  go_wp2_with fail
  go_loopw [8, 9] (fun v i wr => ∃ k : Nat, k ≤ rows.length ∧ i = .int .i64 k ∧ wr.ownsRow wb1.heap.size 3 1 v (placesTo (wrongB rows zs cs n) k).length ((placesTo (wrongB rows zs cs n) k).map (Value.int .i64)) ∧ Below wb1.heap.size wb1 wr) (fun _ i _ => rows.length - (intOf i).toNat)
  case atStart => exact ⟨0, Nat.zero_le _, rfl, HO2.out, HB2.out⟩
  case round =>
    obtain ⟨k, hk9, rfl, hown, hbel⟩ := hrel
    have hsz := hbel.size
    have HV := Lib.hid hown.lt
    have HO := Lib.hid hown
    have HBl := Lib.hid hbel
    by_cases hlt : k < rows.length
    · have HBB := Lib.hid (HB0.out.trans (hbel.mono (by omega)))
      have h3 := sample_at ((cntB_iff _ _ _ _).1 HC.out).1 k hlt
      have i4 : (k : Int) < (cs.length : Int) := by have := HLC.out; omega
      have hlen := placesTo_length (wrongB rows zs cs n) k
      cases hp : wrongB rows zs cs n k
      · have HW := Lib.hid (spec_wrong a rows c a' zs c' e cs d n k wr (Hhr.out.below HBB.out) (Hhz.out.below HBB.out) (Hhc.out.below HBB.out) (forced_row HC.out k hlt) hlt h3.2.2 false (Lib.hid hp))
        have HM := Lib.hid (placesTo_miss _ k hp)
        have y0 := cell_below hbel xx0 (by omega)
        have y1 := cell_below hbel xx1 (by omega)
        clear hown hbel hp h3
        generalize placesTo (wrongB rows zs cs n) k = ms at *
        go_wp2_with fail
        refine HW.out.mono ?_
        rintro e' w3 ⟨rfl, hb3⟩
        have ho3 := ownsRow_block (w' := w3) HO.out (fun g hg => hb3.block g (HV.out g hg).2)
        have HO3 := Lib.hid ho3
        have HB3 := Lib.hid (HBl.out.trans (hb3.mono hsz))
        clear hb3 ho3
        go_wp2_with fail
        go_roundw
        case rel => exact ⟨k + 1, by omega, by go_num, by rw [HM.out]; exact HO3.out, HB3.out⟩
        case measure => simp [intOf]; omega
      · have HW := Lib.hid (spec_wrong a rows c a' zs c' e cs d n k wr (Hhr.out.below HBB.out) (Hhz.out.below HBB.out) (Hhc.out.below HBB.out) (forced_row HC.out k hlt) hlt h3.2.2 true (Lib.hid hp))
        have HM := Lib.hid (placesTo_hit _ k hp)
        have y0 := cell_below hbel xx0 (by omega)
        have y1 := cell_below hbel xx1 (by omega)
        clear hown hbel hp h3
        generalize placesTo (wrongB rows zs cs n) k = ms at *
        go_wp2_with fail
        refine HW.out.mono ?_
        rintro e' w3 ⟨rfl, hb3⟩
        have hoq := ownsRow_block (w' := w3) HO.out (fun g hg => hb3.block g (HV.out g hg).2)
        have HB3 := Lib.hid (HBl.out.trans (hb3.mono hsz))
        have hz3 := HB3.out.size
        clear hb3
        go_wp2_with (at_builtin; refine wpList_append_own _ rfl _ _ 23 rfl wb1.heap.size 3 i0 (.int .i64 0) 1 8 Try.underlying23 hi hz0 hz1 hz2 rfl (by decide) _ _ _ rfl (hoq.alloc _) ⟨w3.heap.size, 0, none⟩ 1 1 [.int .i64 (k : Nat)] rfl rfl (cell_one_new _ _ _) (by simp [Value.oneCell']) (by unfold maxLen; omega) (by omega) (by simp; omega) ?_; intro v' w4 hown' hgrow _)
        obtain ⟨g', cap', hv'⟩ := ownsRow_succ hown'
        subst hv'
        have HO4 := Lib.hid hown'
        have HB4 := Lib.hid ((HB3.out.alloc hz3 _).grown hgrow (Nat.le_trans hz3 (by simp)) (fun g e => (HV.out g e).1))
        clear hoq hown' hgrow
        go_wp2_with fail
        go_roundw
        case rel => exact ⟨k + 1, by omega, by go_num, by rw [HM.out, List.map_append, List.length_append]; exact HO4.out, HB4.out⟩
        case measure => simp [intOf]; omega
    · obtain rfl : k = rows.length := by omega
      have i4 : ¬ (rows.length : Int) < (cs.length : Int) := by have := HLC.out; omega
      have HF := Lib.hid (show RetIB (placesTo (wrongB rows zs cs n) rows.length) true w (.returned (.tuple #[u8, .bool true])) wr from ⟨_, rfl, (OwnI.of hown).mono (by omega) (Nat.le_refl _), HB0.out.trans (hbel.mono (by omega))⟩)
      clear hown hbel
      go_wp2_with fail
      go_ret2
      exact HF.out
set_option maxRecDepth 100000 in
set_option maxHeartbeats 1600000 in
theorem kmis_closure (a : Option Addr) (rows : List (List Int)) (c : Nat) (a' : Option Addr) (zs : List Int) (c' : Nat) (e : Option Addr) (cs : List Int) (d : Nat) (n : Int) (g0 g1 g2 : Nat) (i : Nat) (w : World) (hr : grid.Reads w a rows) (hz : ints.Reads .i64 w a' zs) (hc : ints.Reads .i64 w e cs) (y0 : w.cell? ⟨g0, 0, none⟩ = some (.slice a rows.length c)) (y1 : w.cell? ⟨g0, 1, none⟩ = some (.slice a' zs.length c')) (y2 : w.cell? ⟨g1, 0, none⟩ = some (.slice e cs.length d)) (y3 : w.cell? ⟨g2, 0, none⟩ = some (.int .i64 n)) (hF : Forced rows zs cs n (rows.getD i [])) (hi : i < rows.length) (hz1 : zs.getD i 0 = 1 ∨ zs.getD i 0 = -1) :
    Calls Try.prog 102 #[.int .i64 i, .pointer (some ⟨g0, 0, none⟩), .pointer (some ⟨g1, 0, none⟩), .pointer (some ⟨g2, 0, none⟩)] w (fun e' w' => e' = .returned (.bool (wrongB rows zs cs n i)) ∧ Below w.heap.size w w') := by
  have HW := Lib.hid (impl_wrong a rows c a' zs c' e cs d n i w hr hz hc hF hi hz1 _ (Lib.hid rfl))
  clear hr hz hc hF hz1
  generalize wrongB rows zs cs n i = ok at *
  go_enter Try.func102, Try.ntmps102
  go_wp2_with fail
  refine HW.out.mono ?_
  rintro e' w2 ⟨rfl, hb⟩
  have HB := Lib.hid hb
  clear hb
  go_wp2_with fail
  go_ret
  exact ⟨rfl, HB.out⟩
set_option maxRecDepth 100000 in
set_option maxHeartbeats 1600000 in
theorem impl_kmis_no (a : Option Addr) (rows : List (List Int)) (c : Nat) (a' : Option Addr) (zs : List Int) (c' : Nat) (e : Option Addr) (cs : List Int) (d : Nat) (n : Int) (w : World) (hr : grid.Reads w a rows) (hz : ints.Reads .i64 w a' zs) (hc : ints.Reads .i64 w e cs) (hn : rows.length ≤ 1048576) (hk : zs.length ≤ 1048576) (hm : ∀ r ∈ rows, r.length ≤ 1048576) (hcn : cs.length ≤ 1048576) (h : cntB rows zs cs n = false) :
    Calls Try.prog 43 #[.agg #[.slice a rows.length c, .slice a' zs.length c'], .slice e cs.length d, .int .i64 n] w (RetIB [] false w) := by
  have Hhr := Lib.hid hr
  have Hhz := Lib.hid hz
  have Hhc := Lib.hid hc
  have Hhm := Lib.hid hm
  clear hr hz hc hm
  have HC := Lib.hid h
  clear h
  go_enter Try.func43, Try.ntmps43
  obtain ⟨wb1, hw1⟩ : ∃ wb1 : World, wb1 = w.alloc (.cells #[.slice a rows.length c, .slice a' zs.length c'] 29) := ⟨_, rfl⟩
  obtain ⟨wb2, hw2⟩ : ∃ wb2 : World, wb2 = wb1.alloc (.cells #[.slice e cs.length d] 23) := ⟨_, rfl⟩
  obtain ⟨wb3, hw3⟩ : ∃ wb3 : World, wb3 = wb2.alloc (.cells #[.int .i64 n] 3) := ⟨_, rfl⟩
  have z1 : wb1.heap.size = w.heap.size + 1 := by rw [hw1]; simp
  have z2 : wb2.heap.size = w.heap.size + 2 := by rw [hw2]; simp; omega
  have z3 : wb3.heap.size = w.heap.size + 3 := by rw [hw3]; simp; omega
  have x0_0 := (by rw [hw3]; exact cell_old _ (by rw [hw2]; exact cell_old _ (by rw [hw1]; exact cell_new _ _ _ rfl rfl : wb1.cell? ⟨w.heap.size, 0, none⟩ = some (.slice a rows.length c)) : wb2.cell? ⟨w.heap.size, 0, none⟩ = some (.slice a rows.length c)) : wb3.cell? ⟨w.heap.size, 0, none⟩ = some (.slice a rows.length c))
  have x0_1 := (by rw [hw3]; exact cell_old _ (by rw [hw2]; exact cell_old _ (by rw [hw1]; exact cell_new _ _ _ rfl rfl : wb1.cell? ⟨w.heap.size, 1, none⟩ = some (.slice a' zs.length c')) : wb2.cell? ⟨w.heap.size, 1, none⟩ = some (.slice a' zs.length c')) : wb3.cell? ⟨w.heap.size, 1, none⟩ = some (.slice a' zs.length c'))
  have x1_0 := (by rw [hw3]; exact cell_old _ (by rw [hw2]; exact cell_new _ _ _ z1.symm rfl : wb2.cell? ⟨w.heap.size + 1, 0, none⟩ = some (.slice e cs.length d)) : wb3.cell? ⟨w.heap.size + 1, 0, none⟩ = some (.slice e cs.length d))
  have x2_0 := (by rw [hw3]; exact cell_new _ _ _ z2.symm rfl : wb3.cell? ⟨w.heap.size + 2, 0, none⟩ = some (.int .i64 n))
  have HB0 := Lib.hid (show Below w.heap.size w wb3 by rw [hw3]; exact (show Below w.heap.size w wb2 by rw [hw2]; exact (show Below w.heap.size w wb1 by rw [hw1]; exact (Below.refl w.heap.size w).alloc (Nat.le_refl _) _).alloc (by omega) _).alloc (by omega) _)
  have s3 : w.heap.size + 3 ≤ wb3.heap.size := by omega
  have HZ3 := Lib.hid z3
  clear z1 z2 z3
  go_wp2_with fail
  rw [← hw1, ← hw2, ← hw3]
  clear hw1 hw2 hw3
  refine (impl_cnt _ rows c a' zs c' e cs d n wb3 (Hhr.out.below HB0.out) (Hhz.out.below HB0.out) (Hhc.out.below HB0.out) hn hk Hhm.out hcn false HC).mono ?_
  rintro e' w2 ⟨rfl, hb⟩
  replace x0_0 := cell_below hb x0_0 (by omega)
  replace x0_1 := cell_below hb x0_1 (by omega)
  replace x1_0 := cell_below hb x1_0 (by omega)
  replace x2_0 := cell_below hb x2_0 (by omega)
  have HB2 := Lib.hid (HB0.out.trans (hb.mono HB0.out.size))
  have s2 := hb.size
  clear hb
  go_wp2_with fail
  go_ret2
  exact ret_empty HB2.out
set_option maxRecDepth 100000 in
set_option maxHeartbeats 1600000 in
theorem impl_kmis_yes (a : Option Addr) (rows : List (List Int)) (c : Nat) (a' : Option Addr) (zs : List Int) (c' : Nat) (e : Option Addr) (cs : List Int) (d : Nat) (n : Int) (w : World) (hr : grid.Reads w a rows) (hz : ints.Reads .i64 w a' zs) (hc : ints.Reads .i64 w e cs) (hn : rows.length ≤ 1048576) (hk : zs.length ≤ 1048576) (hm : ∀ r ∈ rows, r.length ≤ 1048576) (hcn : cs.length ≤ 1048576) (h : cntB rows zs cs n = true) :
    Calls Try.prog 43 #[.agg #[.slice a rows.length c, .slice a' zs.length c'], .slice e cs.length d, .int .i64 n] w (RetIB (placesTo (wrongB rows zs cs n) rows.length) true w) := by
  have Hhr := Lib.hid hr
  have Hhz := Lib.hid hz
  have Hhc := Lib.hid hc
  have Hhm := Lib.hid hm
  clear hr hz hc hm
  have HC := Lib.hid h
  have HSA := Lib.hid (sample_at ((cntB_iff _ _ _ _).1 h).1)
  clear h
  go_enter Try.func43, Try.ntmps43
  obtain ⟨wb1, hw1⟩ : ∃ wb1 : World, wb1 = w.alloc (.cells #[.slice a rows.length c, .slice a' zs.length c'] 29) := ⟨_, rfl⟩
  obtain ⟨wb2, hw2⟩ : ∃ wb2 : World, wb2 = wb1.alloc (.cells #[.slice e cs.length d] 23) := ⟨_, rfl⟩
  obtain ⟨wb3, hw3⟩ : ∃ wb3 : World, wb3 = wb2.alloc (.cells #[.int .i64 n] 3) := ⟨_, rfl⟩
  have z1 : wb1.heap.size = w.heap.size + 1 := by rw [hw1]; simp
  have z2 : wb2.heap.size = w.heap.size + 2 := by rw [hw2]; simp; omega
  have z3 : wb3.heap.size = w.heap.size + 3 := by rw [hw3]; simp; omega
  have x0_0 := (by rw [hw3]; exact cell_old _ (by rw [hw2]; exact cell_old _ (by rw [hw1]; exact cell_new _ _ _ rfl rfl : wb1.cell? ⟨w.heap.size, 0, none⟩ = some (.slice a rows.length c)) : wb2.cell? ⟨w.heap.size, 0, none⟩ = some (.slice a rows.length c)) : wb3.cell? ⟨w.heap.size, 0, none⟩ = some (.slice a rows.length c))
  have x0_1 := (by rw [hw3]; exact cell_old _ (by rw [hw2]; exact cell_old _ (by rw [hw1]; exact cell_new _ _ _ rfl rfl : wb1.cell? ⟨w.heap.size, 1, none⟩ = some (.slice a' zs.length c')) : wb2.cell? ⟨w.heap.size, 1, none⟩ = some (.slice a' zs.length c')) : wb3.cell? ⟨w.heap.size, 1, none⟩ = some (.slice a' zs.length c'))
  have x1_0 := (by rw [hw3]; exact cell_old _ (by rw [hw2]; exact cell_new _ _ _ z1.symm rfl : wb2.cell? ⟨w.heap.size + 1, 0, none⟩ = some (.slice e cs.length d)) : wb3.cell? ⟨w.heap.size + 1, 0, none⟩ = some (.slice e cs.length d))
  have x2_0 := (by rw [hw3]; exact cell_new _ _ _ z2.symm rfl : wb3.cell? ⟨w.heap.size + 2, 0, none⟩ = some (.int .i64 n))
  have HB0 := Lib.hid (show Below w.heap.size w wb3 by rw [hw3]; exact (show Below w.heap.size w wb2 by rw [hw2]; exact (show Below w.heap.size w wb1 by rw [hw1]; exact (Below.refl w.heap.size w).alloc (Nat.le_refl _) _).alloc (by omega) _).alloc (by omega) _)
  have s3 : w.heap.size + 3 ≤ wb3.heap.size := by omega
  have HZ3 := Lib.hid z3
  clear z1 z2 z3
  go_wp2_with fail
  rw [← hw1, ← hw2, ← hw3]
  clear hw1 hw2 hw3
  refine (impl_cnt _ rows c a' zs c' e cs d n wb3 (Hhr.out.below HB0.out) (Hhz.out.below HB0.out) (Hhc.out.below HB0.out) hn hk Hhm.out hcn true HC).mono ?_
  rintro e' w2 ⟨rfl, hb⟩
  replace x0_0 := cell_below hb x0_0 (by omega)
  replace x0_1 := cell_below hb x0_1 (by omega)
  replace x1_0 := cell_below hb x1_0 (by omega)
  replace x2_0 := cell_below hb x2_0 (by omega)
  have HB2 := Lib.hid (HB0.out.trans (hb.mono HB0.out.size))
  have s2 := hb.size
  clear hb
  go_wp2_with fail
  refine (where3 102 (enters_of Try.func102 (by kernel_rfl) rfl) _ _ _ rows.length (wrongB rows zs cs n) w2 hn (Lib.hid fun k wr hk9 hb9 => kmis_closure a rows c a' zs c' e cs d n w.heap.size (w.heap.size + 1) (w.heap.size + 2) k wr ((Hhr.out.below HB2.out).below hb9) ((Hhz.out.below HB2.out).below hb9) ((Hhc.out.below HB2.out).below hb9) (cell_below hb9 x0_0 (by omega)) (cell_below hb9 x0_1 (by omega)) (cell_below hb9 x1_0 (by omega)) (cell_below hb9 x2_0 (by omega)) (forced_row HC.out k hk9) hk9 (HSA.out k hk9).2.2)).mono ?_
  rintro e' w3 ⟨v3, rfl, ho, hb⟩
  have HF := Lib.hid (show RetIB (placesTo (wrongB rows zs cs n) rows.length) true w (.returned (.tuple #[v3, .bool true])) w3 from ⟨_, rfl, ho.mono (by omega) (Nat.le_refl _), HB2.out.trans (hb.mono HB2.out.size)⟩)
  clear ho hb
  go_wp2_with fail
  go_ret2
  exact HF.out
end Go.Proofs.Ytkbcofgigfnfaaa.krnm
