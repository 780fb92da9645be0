/- The walks of the program's places where a function holds, with the function of MistakesOf. -/
import Derived.Test.YthohnnobahcdpaaMistakes
namespace Go.Proofs.Ythohnnobahcdpaa.places
open Go.RowKit own pp nums sides mistakes
set_option linter.unusedVariables false
set_option linter.unusedSimpArgs false

/-- The places below k where p holds. -/
def placesTo (p : Nat → Bool) (k : Nat) : List Int := ((List.range k).filter p).map fun i : Nat => (i : Int)
theorem placesTo_length (p : Nat → Bool) (k : Nat) : (placesTo p k).length ≤ k := by
  unfold placesTo
  rw [List.length_map]
  exact Nat.le_trans (List.length_filter_le _ _) (by simp)
theorem placesTo_hit (p : Nat → Bool) (k : Nat) (h : p k = true) : placesTo p (k + 1) = placesTo p k ++ [(k : Int)] := by
  simp [placesTo, List.range_succ, List.filter_append, h]
theorem placesTo_miss (p : Nat → Bool) (k : Nat) (h : p k = false) : placesTo p (k + 1) = placesTo p k := by
  simp [placesTo, List.range_succ, List.filter_append, h]

/-- The closure of MistakesOf at a place: it only reads. -/
theorem mis_closure (k : Nat) (bs bS : Nat) (sp : Option Addr) (ss : List Int) (sc : Nat) (lp : Option Addr) (zs : List Int) (lc : Nat) (w : World)
    (hs : w.cell? ⟨bs, 0, none⟩ = some (.slice sp ss.length sc)) (hl : w.cell? ⟨bS, 1, none⟩ = some (.slice lp zs.length lc)) (hrs : ints.Reads .i64 w sp ss) (hrl : ints.Reads .i64 w lp zs) (h1 : k < ss.length) (h2 : k < zs.length) (hz : ss.length ≤ 1048576) (hz2 : zs.length ≤ 1048576) (ok : Bool) (hok : (ss.getD k 0 != zs.getD k 0) = ok) :
    Calls Try.prog 121 #[.int .i64 k, .pointer (some ⟨bs, 0, none⟩), .pointer (some ⟨bS, 0, none⟩)] w fun e w' => e = .returned (.bool ok) ∧ ∃ m, w' = w.drewN m := by
  obtain ⟨b1, o1, rfl, _, hc1⟩ := hrs.at h1
  obtain ⟨b2, o2, rfl, _, hc2⟩ := hrl.at h2
  clear hrs hrl
  generalize ss.getD k 0 = s at *
  generalize zs.getD k 0 = z at *
  have i1 : (0 : Int) ≤ (k : Int) := by omega
  have i2 : (k : Int) < (ss.length : Int) := by omega
  have i3 : (k : Int) < (zs.length : Int) := by omega
  go_enter Try.func121, Try.ntmps121
  go_wp2_with fail
  go_quiet (fail)
  go_wp2_with fail
  go_ret
  exact ⟨rfl, _, rfl⟩

set_option maxRecDepth 100000 in
set_option maxHeartbeats 1000000 in
theorem mis_places (n : Nat) (c1 c2 : Value) (p : Nat → Bool) (w : World) (hn : n ≤ 1048576)
    (HC : Hid (∀ (k : Nat) (wr : World), k < n → Below w.heap.size w wr → Calls Try.prog 121 #[.int .i64 k, c1, c2] wr fun e w' => e = .returned (.bool (p k)) ∧ ∃ m, w' = wr.drewN m)) :
    Calls Try.prog 120 #[.int .i64 n, .func (.func 121) #[] #[c1, c2]] w (intfns.Made (placesTo p n) w) := by
  obtain ⟨i0, hi, hz0, hz1, hz2⟩ := info_parts infoInt
  go_enter Try.func120, Try.ntmps120
  go_wp2_with fail
  have hown0 := (own_empty w).1
  have hb0 := below_alloc w (.cells #[] 3)
  go_loopw [5, 9] (fun v i wr => ∃ (k : Nat), k ≤ n ∧ i = .int .i64 k ∧ wr.ownsRow w.heap.size 3 1 v (placesTo p k).length ((placesTo p k).map (Value.int .i64)) ∧ Below w.heap.size w wr) (fun _ i _ => n - (intOf i).toNat)
  case atStart => exact ⟨0, Nat.zero_le _, rfl, hown0, hb0⟩
  case round =>
    obtain ⟨k, hk, rfl, hown, hbel⟩ := hrel
    have HV := Lib.hid hown.lt
    have HBl := Lib.hid hbel
    have hsz := hbel.size
    clear hown0 hb0
    by_cases hlt : k < n
    · have HO := Lib.hid hown
      have HF := Lib.hid (HC.out k wr hlt hbel)
      have hlen := placesTo_length p k
      clear hown hbel
      cases hp : p k
      · have HM := Lib.hid (placesTo_miss p k hp)
        rw [hp] at HF
        clear hp
        generalize placesTo p k = ms at *
        go_wp2_with fail
        refine HF.out.mono ?_
        rintro e w' ⟨rfl, m, rfl⟩
        go_wp2_with fail
        go_roundw
        case rel => exact ⟨k + 1, by omega, by go_num, by rw [HM.out]; exact HO.out, ints.below_drewN HBl.out _⟩
        case measure => simp [intOf]; omega
      · have HM := Lib.hid (placesTo_hit p k hp)
        rw [hp] at HF
        clear hp
        generalize placesTo p k = ms at *
        go_wp2_with fail
        refine HF.out.mono ?_
        rintro e w' ⟨rfl, m, rfl⟩
        obtain ⟨wq, hwq⟩ : ∃ wq, wq = wr.drewN m := ⟨_, rfl⟩
        have hoq : wq.ownsRow w.heap.size 3 1 u5 ms.length (ms.map (Value.int .i64)) := by rw [hwq]; exact HO.out
        have HBq := Lib.hid (show Below w.heap.size w wq by rw [hwq]; exact ints.below_drewN HBl.out _)
        have hzq : w.heap.size ≤ wq.heap.size := HBq.out.size
        rw [← hwq]
        clear hwq
        go_wp2_with (at_builtin; refine wpList_append_own _ rfl _ _ 22 rfl w.heap.size 3 i0 (.int .i64 0) 1 8 Try.underlying22 hi hz0 hz1 hz2 rfl (by decide) _ _ _ rfl (hoq.alloc _) ⟨wq.heap.size, 0, none⟩ 1 1 [.int .i64 (k : Nat)] rfl rfl (cell_one_new _ _ _) (by simp [Value.oneCell']) (by unfold maxLen; omega) (by omega) (by simp; omega) ?_; intro v' w2 hown' hgrow _)
        obtain ⟨g', cap', hv'⟩ := ownsRow_succ hown'
        subst hv'
        have HO2 := Lib.hid hown'
        have HB2 := Lib.hid ((HBq.out.alloc HBq.out.size _).grown hgrow (Nat.le_trans HBq.out.size (by simp)) (fun g e => (HV.out g e).1))
        clear hoq hown' hgrow
        go_wp2_with fail
        go_roundw
        case rel => exact ⟨k + 1, by omega, by go_num, by rw [HM.out, List.map_append, List.length_append]; exact HO2.out, HB2.out⟩
        case measure => simp [intOf]; omega
    · obtain rfl : k = n := by omega
      have HF1 := Lib.hid (show intfns.Made (placesTo p k) w (.returned u5) wr from ⟨u5, rfl, OwnI.of hown, HBl.out⟩)
      clear hown hbel
      go_wp2_with fail
      go_ret
      exact HF1.out
end Go.Proofs.Ythohnnobahcdpaa.places
