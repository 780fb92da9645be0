/- The places that are left, and all places; points for a sample. -/
import Derived.Test.YtkbcofgigfnfaaaWhere
import Derived.Test.YtkbcofgigfnfaaaHas
import Derived.Test.YtkbcofgigfnfaaaFitsP
import Derived.Test.YtkbcofgigfnfaaaSamplesT
namespace Go.Proofs.Ytkbcofgigfnfaaa.lefts
open Go.RowKit own pp nums mk pwh has fitsp samplesv samplest
set_option linter.unusedVariables false
set_option linter.unusedSimpArgs false

set_option maxRecDepth 100000 in
set_option maxHeartbeats 1600000 in
theorem spec_left (n : Nat) (a : Option Addr) (zs : List Int) (c : Nat) (w : World) (hr : ints.Reads .i64 w a zs) (hn : n ≤ 1048576) (hl : zs.length ≤ 1048576) :
    Calls Try.prog 71 #[.int .i64 n, .slice a zs.length c] w (intfns.Made (placesTo (fun i => !hasB zs i) n) w) := by
  obtain ⟨i0, hi, hz0, hz1, hz2⟩ := info_parts mk.infoInt
  have Hhr := Lib.hid hr
  clear hr
  go_enter Try.func71, Try.ntmps71
  go_wp2_with fail
  have hown0 := (own_empty w).1
  have hb0 := below_alloc w (.cells #[] 3)
  go_loopw [5, 6] (fun v i wr => ∃ k : Nat, k ≤ n ∧ i = .int .i64 k ∧ wr.ownsRow w.heap.size 3 1 v (placesTo (fun i => !hasB zs i) k).length ((placesTo (fun i => !hasB zs i) k).map (Value.int .i64)) ∧ Below w.heap.size w wr) (fun _ i _ => n - (intOf i).toNat)
  case atStart => exact ⟨0, Nat.zero_le _, rfl, hown0, hb0⟩
  case round =>
    obtain ⟨k, hk9, rfl, hown, hbel⟩ := hrel
    have hsz := hbel.size
    have HV := Lib.hid hown.lt
    have HO := Lib.hid hown
    have HBl := Lib.hid hbel
    clear hown0 hb0
    by_cases hlt : k < n
    · have hlen := placesTo_length (fun i => !hasB zs i) k
      have i2 : (k : Int) < (n : Int) := by omega
      cases hp : hasB zs k
      · have HW := Lib.hid (spec_has a zs c k wr (Hhr.out.below hbel) hl false (Lib.hid hp))
        have HM := Lib.hid (placesTo_hit (fun i => !hasB zs i) k (by show (!hasB zs k) = true; rw [hp]; rfl))
        clear hown hbel hp
        generalize placesTo (fun i => !hasB zs i) k = ms at *
        go_wp2_with fail
        refine HW.out.mono ?_
        rintro e' w3 ⟨rfl, rfl⟩
        have hoq := HO.out
        go_wp2_with (at_builtin; refine wpList_append_own _ rfl _ _ 23 rfl w.heap.size 3 i0 (.int .i64 0) 1 8 Try.underlying23 hi hz0 hz1 hz2 rfl (by decide) _ _ _ rfl (hoq.alloc _) ⟨wr.heap.size, 0, none⟩ 1 1 [.int .i64 (k : Nat)] rfl rfl (cell_one_new _ _ _) (by simp [Value.oneCell']) (by unfold maxLen; omega) (by omega) (by simp; omega) ?_; intro v' w4 hown' hgrow _)
        obtain ⟨g', cap', hv'⟩ := ownsRow_succ hown'
        subst hv'
        have HO4 := Lib.hid hown'
        have HB4 := Lib.hid ((HBl.out.alloc hsz _).grown hgrow (Nat.le_trans hsz (by simp)) (fun g e => (HV.out g e).1))
        clear hoq hown' hgrow
        go_wp2_with fail
        go_roundw
        case rel => exact ⟨k + 1, by omega, by go_num, by rw [HM.out, List.map_append, List.length_append]; exact HO4.out, HB4.out⟩
        case measure => simp [intOf]; omega
      · have HW := Lib.hid (spec_has a zs c k wr (Hhr.out.below hbel) hl true (Lib.hid hp))
        have HM := Lib.hid (placesTo_miss (fun i => !hasB zs i) k (by show (!hasB zs k) = false; rw [hp]; rfl))
        clear hown hbel hp
        generalize placesTo (fun i => !hasB zs i) k = ms at *
        go_wp2_with fail
        refine HW.out.mono ?_
        rintro e' w3 ⟨rfl, rfl⟩
        go_wp2_with fail
        go_roundw
        case rel => exact ⟨k + 1, by omega, by go_num, by rw [HM.out]; exact HO.out, HBl.out⟩
        case measure => simp [intOf]; omega
    · obtain rfl : k = n := by omega
      have i2 : ¬ (k : Int) < (k : Int) := by omega
      have HF1 := Lib.hid (show intfns.Made (placesTo (fun i => !hasB zs i) k) w (.returned u5) wr from ⟨u5, rfl, OwnI.of hown, HBl.out⟩)
      clear hown hbel
      go_wp2_with fail
      go_ret
      exact HF1.out
theorem placesTo_all (n : Nat) : placesTo (fun i => !hasB [] i) n = mk.mk (fun i => (i : Int)) n := by
  unfold placesTo mk.mk
  have h : List.filter (fun i : Nat => !hasB [] (i : Int)) (List.range n) = List.range n := List.filter_eq_self.2 (fun _ _ => rfl)
  rw [h]
set_option maxRecDepth 100000 in
set_option maxHeartbeats 1600000 in
theorem spec_all (a : Option Addr) (rows : List (List Int)) (c : Nat) (a' : Option Addr) (zs : List Int) (c' : Nat) (w : World) (hn : rows.length ≤ 1048576) :
    Calls Try.prog 61 #[.agg #[.slice a rows.length c, .slice a' zs.length c']] w (intfns.Made (mk.mk (fun i => (i : Int)) rows.length) w) := by
  go_enter Try.func61, Try.ntmps61
  obtain ⟨wb1, hw1⟩ : ∃ wb1 : World, wb1 = w.alloc (.cells #[.slice a rows.length c, .slice a' zs.length c'] 29) := ⟨_, rfl⟩
  have z1 : wb1.heap.size = w.heap.size + 1 := by rw [hw1]; simp
  have x0_0 := (by rw [hw1]; exact cell_new _ _ _ rfl rfl : wb1.cell? ⟨w.heap.size, 0, none⟩ = some (.slice a rows.length c))
  have x0_1 := (by rw [hw1]; exact cell_new _ _ _ rfl rfl : wb1.cell? ⟨w.heap.size, 1, none⟩ = some (.slice a' zs.length c'))
  have HB0 := Lib.hid (show Below w.heap.size w wb1 by rw [hw1]; exact (Below.refl w.heap.size w).alloc (Nat.le_refl _) _)
  have s1 : w.heap.size + 1 ≤ wb1.heap.size := by omega
  have HZ1 := Lib.hid z1
  clear z1
  go_wp2_with fail
  rw [← hw1]
  clear hw1
  rw [show w.heap.size + 1 = wb1.heap.size from HZ1.out.symm]
  have HBA := Lib.hid (below_alloc wb1 (.cells #[] 3))
  refine (spec_left rows.length (some ⟨wb1.heap.size, 0, none⟩) [] 0 _ (.inl rfl) hn (by simp)).mono ?_
  rintro e' w2 ⟨v2, rfl, ho, hb⟩
  have HO := Lib.hid (ho.mono (lo' := w.heap.size) (by simp; omega) (Nat.le_refl _))
  have HB2 := Lib.hid (HB0.out.trans ((HBA.out.trans (hb.mono (by simp))).mono (by omega)))
  clear ho hb
  rw [placesTo_all] at HO
  go_wp2_with fail
  go_ret
  exact ⟨_, rfl, HO.out, HB2.out⟩
def ptB (rows : List (List Int)) (zs xs : List Int) : Bool := sampleB rows zs && pointB xs && decide (0 < rows.length) && decide ((rows.getD 0 []).length = xs.length)
def npB (rows : List (List Int)) (zs xs : List Int) (k : Int) : Bool := sampleB rows zs && fitsB rows xs && (decide (1 ≤ k) && decide (k ≤ (rows.length : Int)))
theorem npB_iff (rows : List (List Int)) (zs xs : List Int) (k : Int) : npB rows zs xs k = true ↔ sampleB rows zs = true ∧ fitsB rows xs = true ∧ 1 ≤ k ∧ k ≤ (rows.length : Int) := by simp [npB, and_assoc]
theorem np_pt (rows : List (List Int)) (zs xs : List Int) (k : Int) : npB rows zs xs k = (ptB rows zs xs && (decide (1 ≤ k) && decide (k ≤ (rows.length : Int)))) := by
  by_cases hk : 1 ≤ k ∧ k ≤ (rows.length : Int)
  · have h0 : 0 < rows.length := by omega
    unfold npB ptB fitsB
    rw [show decide (0 < rows.length) = true from decide_eq_true h0, show decide (rows.length = 0) = false from decide_eq_false (by omega), show decide (xs.length = (rows.getD 0 []).length) = decide ((rows.getD 0 []).length = xs.length) from decide_eq_decide.2 ⟨Eq.symm, Eq.symm⟩]
    simp [Bool.and_assoc]
  · have e : (decide (1 ≤ k) && decide (k ≤ (rows.length : Int))) = false := by
      by_cases h1 : 1 ≤ k
      · simp [h1]; omega
      · simp [h1]
    unfold npB
    rw [e, Bool.and_false, Bool.and_false]
set_option maxRecDepth 100000 in
set_option maxHeartbeats 1600000 in
theorem spec_pt (a : Option Addr) (rows : List (List Int)) (c : Nat) (a' : Option Addr) (zs : List Int) (c' : Nat) (x : Option Addr) (xs : List Int) (q : Nat) (w : World) (hr : grid.Reads w a rows) (hz : ints.Reads .i64 w a' zs) (hx : ints.Reads .i64 w x xs) (hn : rows.length ≤ 1048576) (hk : zs.length ≤ 1048576) (hm : ∀ r ∈ rows, r.length ≤ 1048576) (hxn : xs.length ≤ 1048576) (ok : Bool) (h : Hid (ptB rows zs xs = ok)) :
    Calls Try.prog 57 #[.agg #[.slice a rows.length c, .slice a' zs.length c'], .slice x xs.length q] w (RetB ok w) := by
  have Hhr := Lib.hid hr
  have Hhz := Lib.hid hz
  have Hhx := Lib.hid hx
  have Hhm := Lib.hid hm
  clear hr hz hx hm
  cases hs : sampleB rows zs
  · have HS := Lib.hid hs
    have e9 : ok = false := by rw [← h.out]; unfold ptB; rw [hs]; rfl
    subst e9
    clear h hs
    go_enter Try.func57, Try.ntmps57
    obtain ⟨wb1, hw1⟩ : ∃ wb1 : World, wb1 = w.alloc (.cells #[.slice a rows.length c, .slice a' zs.length c'] 29) := ⟨_, rfl⟩
    have z1 : wb1.heap.size = w.heap.size + 1 := by rw [hw1]; simp
    have x0_0 := (by rw [hw1]; exact cell_new _ _ _ rfl rfl : wb1.cell? ⟨w.heap.size, 0, none⟩ = some (.slice a rows.length c))
    have x0_1 := (by rw [hw1]; exact cell_new _ _ _ rfl rfl : wb1.cell? ⟨w.heap.size, 1, none⟩ = some (.slice a' zs.length c'))
    have HB0 := Lib.hid (show Below w.heap.size w wb1 by rw [hw1]; exact (Below.refl w.heap.size w).alloc (Nat.le_refl _) _)
    have s1 : w.heap.size + 1 ≤ wb1.heap.size := by omega
    have HZ1 := Lib.hid z1
    clear z1
    go_wp2_with fail
    rw [← hw1]
    clear hw1
    refine (spec_sample a rows c a' zs c' wb1 (Hhr.out.below HB0.out) (Hhz.out.below HB0.out) hn hk Hhm.out false HS).mono ?_
    rintro e' w2 ⟨rfl, hb⟩
    replace x0_0 := cell_below hb x0_0 (by omega)
    replace x0_1 := cell_below hb x0_1 (by omega)
    have s2 := hb.size
    have HB2 := Lib.hid (HB0.out.trans (hb.mono (by omega)))
    clear hb
    go_wp2_with fail
    go_ret
    exact ⟨rfl, HB2.out⟩
  have HS := Lib.hid hs
  cases hp : pointB xs
  · have HP := Lib.hid hp
    have e9 : ok = false := by rw [← h.out]; unfold ptB; rw [hs, hp]; rfl
    subst e9
    clear h hs hp
    go_enter Try.func57, Try.ntmps57
    obtain ⟨wb1, hw1⟩ : ∃ wb1 : World, wb1 = w.alloc (.cells #[.slice a rows.length c, .slice a' zs.length c'] 29) := ⟨_, rfl⟩
    have z1 : wb1.heap.size = w.heap.size + 1 := by rw [hw1]; simp
    have x0_0 := (by rw [hw1]; exact cell_new _ _ _ rfl rfl : wb1.cell? ⟨w.heap.size, 0, none⟩ = some (.slice a rows.length c))
    have x0_1 := (by rw [hw1]; exact cell_new _ _ _ rfl rfl : wb1.cell? ⟨w.heap.size, 1, none⟩ = some (.slice a' zs.length c'))
    have HB0 := Lib.hid (show Below w.heap.size w wb1 by rw [hw1]; exact (Below.refl w.heap.size w).alloc (Nat.le_refl _) _)
    have s1 : w.heap.size + 1 ≤ wb1.heap.size := by omega
    have HZ1 := Lib.hid z1
    clear z1
    go_wp2_with fail
    rw [← hw1]
    clear hw1
    refine (spec_sample a rows c a' zs c' wb1 (Hhr.out.below HB0.out) (Hhz.out.below HB0.out) hn hk Hhm.out true HS).mono ?_
    rintro e' w2 ⟨rfl, hb⟩
    replace x0_0 := cell_below hb x0_0 (by omega)
    replace x0_1 := cell_below hb x0_1 (by omega)
    have s2 := hb.size
    have HB2 := Lib.hid (HB0.out.trans (hb.mono (by omega)))
    clear hb
    go_wp2_with fail
    refine (spec_point x xs q w2 (Hhx.out.below HB2.out) hxn false HP).mono ?_
    rintro e' w' ⟨rfl, rfl⟩
    go_wp2_with fail
    go_ret
    exact ⟨rfl, HB2.out⟩
  have HP := Lib.hid hp
  by_cases h0 : 0 < rows.length
  · have e9 : (((rows.getD 0 []).length : Int) == (xs.length : Int)) = ok := by rw [← h.out, len_beq]; unfold ptB; rw [hs, hp, show decide (0 < rows.length) = true by simpa using h0]; rfl
    have HE := Lib.hid e9
    have i0 : (0 : Int) < (rows.length : Int) := by omega
    have i1 : decide ((0 : Int) < (rows.length : Int)) = true := by simpa using i0
    have hw0 := Hhm.out (rows.getD 0 []) (getD_mem rows [] 0 (by omega))
    obtain ⟨bl, off, rp, rq, hab, hbl, hc0, hpq, hrow⟩ := Hhr.out.at (k := 0) (by omega)
    rw [show off + 0 = off by omega] at hc0
    clear h hs hp h0 hrow hpq e9
    subst hab
    generalize rows.getD 0 [] = r0 at *
    go_enter Try.func57, Try.ntmps57
    obtain ⟨wb1, hw1⟩ : ∃ wb1 : World, wb1 = w.alloc (.cells #[.slice (some ⟨bl, off, none⟩) rows.length c, .slice a' zs.length c'] 29) := ⟨_, rfl⟩
    have z1 : wb1.heap.size = w.heap.size + 1 := by rw [hw1]; simp
    have x0_0 := (by rw [hw1]; exact cell_new _ _ _ rfl rfl : wb1.cell? ⟨w.heap.size, 0, none⟩ = some (.slice (some ⟨bl, off, none⟩) rows.length c))
    have x0_1 := (by rw [hw1]; exact cell_new _ _ _ rfl rfl : wb1.cell? ⟨w.heap.size, 1, none⟩ = some (.slice a' zs.length c'))
    have HB0 := Lib.hid (show Below w.heap.size w wb1 by rw [hw1]; exact (Below.refl w.heap.size w).alloc (Nat.le_refl _) _)
    have s1 : w.heap.size + 1 ≤ wb1.heap.size := by omega
    have HZ1 := Lib.hid z1
    clear z1
    go_wp2_with fail
    rw [← hw1]
    clear hw1
    refine (spec_sample _ rows c a' zs c' wb1 (Hhr.out.below HB0.out) (Hhz.out.below HB0.out) hn hk Hhm.out true HS).mono ?_
    rintro e' w2 ⟨rfl, hb⟩
    replace x0_0 := cell_below hb x0_0 (by omega)
    replace x0_1 := cell_below hb x0_1 (by omega)
    have s2 := hb.size
    have HB2 := Lib.hid (HB0.out.trans (hb.mono (by omega)))
    clear hb
    go_wp2_with fail
    replace hc0 := cell_below HB2.out hc0 hbl
    refine (spec_point x xs q w2 (Hhx.out.below HB2.out) hxn true HP).mono ?_
    rintro e' w' ⟨rfl, rfl⟩
    go_wp2_with fail
    have HE2 := Lib.hid (show RetB ok w (.returned (.bool ((r0.length : Int) == (xs.length : Int)))) w2 from ⟨by rw [HE.out], HB2.out⟩)
    go_ret
    exact HE2.out
  · have e9 : ok = false := by rw [← h.out]; unfold ptB; rw [show decide (0 < rows.length) = false by simpa using h0, Bool.and_false]; rfl
    subst e9
    have i0 : ¬ (0 : Int) < (rows.length : Int) := by omega
    have i1 : decide ((0 : Int) < (rows.length : Int)) = false := by simpa using i0
    clear h hs hp h0
    go_enter Try.func57, Try.ntmps57
    obtain ⟨wb1, hw1⟩ : ∃ wb1 : World, wb1 = w.alloc (.cells #[.slice a rows.length c, .slice a' zs.length c'] 29) := ⟨_, rfl⟩
    have z1 : wb1.heap.size = w.heap.size + 1 := by rw [hw1]; simp
    have x0_0 := (by rw [hw1]; exact cell_new _ _ _ rfl rfl : wb1.cell? ⟨w.heap.size, 0, none⟩ = some (.slice a rows.length c))
    have x0_1 := (by rw [hw1]; exact cell_new _ _ _ rfl rfl : wb1.cell? ⟨w.heap.size, 1, none⟩ = some (.slice a' zs.length c'))
    have HB0 := Lib.hid (show Below w.heap.size w wb1 by rw [hw1]; exact (Below.refl w.heap.size w).alloc (Nat.le_refl _) _)
    have s1 : w.heap.size + 1 ≤ wb1.heap.size := by omega
    have HZ1 := Lib.hid z1
    clear z1
    go_wp2_with fail
    rw [← hw1]
    clear hw1
    refine (spec_sample a rows c a' zs c' wb1 (Hhr.out.below HB0.out) (Hhz.out.below HB0.out) hn hk Hhm.out true HS).mono ?_
    rintro e' w2 ⟨rfl, hb⟩
    replace x0_0 := cell_below hb x0_0 (by omega)
    replace x0_1 := cell_below hb x0_1 (by omega)
    have s2 := hb.size
    have HB2 := Lib.hid (HB0.out.trans (hb.mono (by omega)))
    clear hb
    go_wp2_with fail
    refine (spec_point x xs q w2 (Hhx.out.below HB2.out) hxn true HP).mono ?_
    rintro e' w' ⟨rfl, rfl⟩
    go_wp2_with fail
    go_ret
    exact ⟨rfl, HB2.out⟩
end Go.Proofs.Ytkbcofgigfnfaaa.lefts
