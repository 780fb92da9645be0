/- The sums of weights without signs, the model's and the program's. -/
import Derived.Test.YtoephhhofkmgjaaCountN
import Derived.Test.YtoephhhofkmgjaaSize9
import Derived.Deep.RegionHeld3
namespace Go.Proofs.Ytoephhhofkmgjaa.weightn
open Go.RowKit own pp nums planes netp netb concl countn sizeb size9
set_option linter.unusedVariables false
set_option linter.unusedSimpArgs false

/-- The sum of the sizes of planes. -/
def sw (l : List (List Int × Int)) : Int := (l.map fun p => size p.1).sum
theorem sw_append (l m : List (List Int × Int)) : sw (l ++ m) = sw l + sw m := by
  unfold sw; rw [List.map_append, List.sum_append]
theorem sw_succ (l : List (List Int × Int)) (k : Nat) (h : k < l.length) : sw (l.take (k + 1)) = sw (l.take k) + size (l.getD k ([], 0)).1 := by
  rw [take_snocJ l k h, sw_append]; simp [sw]
/-- Weights that a plane may have. -/
def Fine (l : List (List Int × Int)) : Prop := ∀ k, k < l.length → (l.getD k ([], 0)).1.length ≤ 4 ∧ W99 (l.getD k ([], 0)).1
theorem fine_size {l : List (List Int × Int)} (h : Fine l) (k : Nat) (hk : k < l.length) : 0 ≤ size (l.getD k ([], 0)).1 ∧ size (l.getD k ([], 0)).1 ≤ 400 := by
  obtain ⟨h4, hw⟩ := h k hk
  have := sz_bd hw _ (Nat.le_refl _)
  unfold size; omega
theorem fine_sum {l : List (List Int × Int)} (h : Fine l) (k : Nat) (hk : k ≤ l.length) : 0 ≤ sw (l.take k) ∧ sw (l.take k) ≤ 400 * k := by
  induction k with
  | zero => simp [sw]
  | succ k ih =>
    have h1 := ih (by omega)
    have h2 := fine_size h k (by omega)
    rw [sw_succ l k (by omega)]
    omega
theorem fine_of {g : Nat} {l : List (List Int × Int)} (h : layB g l = true) : Fine l := fun k hk => by
  have h1 := (gateB_iff _ _).1 (((layB_iff _ _).1 h).2.2 k hk)
  have h2 := (planeB_iff _ _).1 h1.1
  exact ⟨h2.2.1, fun i hi => numsB_at h2.2.2.1 i hi⟩
theorem fine_net {n : Int} {ls : List (List (List Int × Int))} (h : netB n ls = true) (i : Nat) (hi : i < ls.length) : Fine (ls.getD i []) := fine_of (((netB_iff _ _).1 h).2.2.2.2 i hi)
theorem fine_app {l m : List (List Int × Int)} (h : Fine l) (g : Fine m) : Fine (l ++ m) := fun k hk => by
  by_cases e : k < l.length
  · have hg : (l ++ m).getD k ([], 0) = l.getD k ([], 0) := by rw [List.getD_eq_getElem?_getD, List.getD_eq_getElem?_getD, List.getElem?_append_left e]
    rw [hg]; exact h k e
  · rw [List.length_append] at hk
    have hg : (l ++ m).getD k ([], 0) = m.getD (k - l.length) ([], 0) := by rw [List.getD_eq_getElem?_getD, List.getD_eq_getElem?_getD, List.getElem?_append_right (by omega)]
    rw [hg]; exact g _ (by omega)
theorem fine_flat {n : Int} {ls : List (List (List Int × Int))} (h : netB n ls = true) (k : Nat) (hk : k ≤ ls.length) : Fine (ls.take k).flatten := by
  induction k with
  | zero => intro k hk; simp at hk
  | succ k ih =>
    rw [take_snocL ls k (by omega), List.flatten_append]
    exact fine_app (ih (by omega)) (by simpa using fine_net h k (by omega))
/-- The sum of all weights without signs. -/
def total (ls : List (List (List Int × Int))) : Int := sw ls.flatten
theorem total_bd {n : Int} {ls : List (List (List Int × Int))} (h : netB n ls = true) (k : Nat) (hk : k ≤ ls.length) : 0 ≤ sw (ls.take k).flatten ∧ sw (ls.take k).flatten ≤ 9600 := by
  have h1 := fine_sum (fine_flat h k hk) _ (Nat.le_refl _)
  rw [List.take_length] at h1
  have h2 := flat_le ls k
  have h3 := flat_sum n h
  omega
set_option maxRecDepth 100000 in
set_option maxHeartbeats 1600000 in
theorem spec_weight_no (a : Option Addr) (ls : List (List (List Int × Int))) (c : Nat) (n : Int) (w : World) (hr : ReadsL w a ls) (hn : ls.length ≤ 1048576) (hm : ∀ x ∈ ls, x.length ≤ 1048576 ∧ ∀ y ∈ x, y.1.length ≤ 1048576) (hk : netB n ls = false) :
    Calls Try.prog 34 #[.agg #[.int .i64 n, .slice a ls.length c]] w (RetNB 0 false w) := by
  have Hhr := Lib.hid hr
  have Hhm := Lib.hid hm
  clear hr hm
  have HK := Lib.hid hk
  clear hk
  go_enter Try.func34, Try.ntmps34
  obtain ⟨wb1, hw1⟩ : ∃ wb1 : World, wb1 = w.alloc (.cells #[.int .i64 n, .slice a ls.length c] 29) := ⟨_, rfl⟩
  have z1 : wb1.heap.size = w.heap.size + 1 := by rw [hw1]; simp
  have x0_0 := (by rw [hw1]; exact cell_new _ _ _ rfl rfl : wb1.cell? ⟨w.heap.size, 0, none⟩ = some (.int .i64 n))
  have x0_1 := (by rw [hw1]; exact cell_new _ _ _ rfl rfl : wb1.cell? ⟨w.heap.size, 1, none⟩ = some (.slice a ls.length c))
  have HB0 := Lib.hid (show Below w.heap.size w wb1 by rw [hw1]; exact (Below.refl w.heap.size w).alloc (Nat.le_refl _) _)
  have s1 : w.heap.size + 1 ≤ wb1.heap.size := by omega
  have HZ1 := Lib.hid z1
  clear z1
  go_wp2_with fail
  rw [← hw1]
  clear hw1
  refine (spec_good a ls c n wb1 (Hhr.out.below HB0.out) hn Hhm.out false HK).mono ?_
  rintro e w2 ⟨rfl, hb⟩
  replace x0_0 := cell_below hb x0_0 (by omega)
  replace x0_1 := cell_below hb x0_1 (by omega)
  have s2 : w.heap.size + 1 ≤ w2.heap.size := by have := hb.size; omega
  have HB2 := Lib.hid (HB0.out.trans (hb.mono (by omega)))
  clear hb
  go_wp2_with fail
  go_ret2
  exact ⟨rfl, HB2.out⟩
set_option maxRecDepth 100000 in
set_option maxHeartbeats 1600000 in
theorem impl_weight_no (a : Option Addr) (ls : List (List (List Int × Int))) (c : Nat) (n : Int) (w : World) (hr : ReadsL w a ls) (hn : ls.length ≤ 1048576) (hm : ∀ x ∈ ls, x.length ≤ 1048576 ∧ ∀ y ∈ x, y.1.length ≤ 1048576) (hk : netB n ls = false) :
    Calls Try.prog 35 #[.agg #[.int .i64 n, .slice a ls.length c]] w (RetNB 0 false w) := by
  have Hhr := Lib.hid hr
  have Hhm := Lib.hid hm
  clear hr hm
  have HK := Lib.hid hk
  clear hk
  go_enter Try.func35, Try.ntmps35
  obtain ⟨wb1, hw1⟩ : ∃ wb1 : World, wb1 = w.alloc (.cells #[.int .i64 n, .slice a ls.length c] 29) := ⟨_, rfl⟩
  have z1 : wb1.heap.size = w.heap.size + 1 := by rw [hw1]; simp
  have x0_0 := (by rw [hw1]; exact cell_new _ _ _ rfl rfl : wb1.cell? ⟨w.heap.size, 0, none⟩ = some (.int .i64 n))
  have x0_1 := (by rw [hw1]; exact cell_new _ _ _ rfl rfl : wb1.cell? ⟨w.heap.size, 1, none⟩ = some (.slice a ls.length c))
  have HB0 := Lib.hid (show Below w.heap.size w wb1 by rw [hw1]; exact (Below.refl w.heap.size w).alloc (Nat.le_refl _) _)
  have s1 : w.heap.size + 1 ≤ wb1.heap.size := by omega
  have HZ1 := Lib.hid z1
  clear z1
  go_wp2_with fail
  rw [← hw1]
  clear hw1
  refine (impl_net a ls c n wb1 (Hhr.out.below HB0.out) hn Hhm.out false HK).mono ?_
  rintro e w2 ⟨rfl, hb⟩
  replace x0_0 := cell_below hb x0_0 (by omega)
  replace x0_1 := cell_below hb x0_1 (by omega)
  have s2 : w.heap.size + 1 ≤ w2.heap.size := by have := hb.size; omega
  have HB2 := Lib.hid (HB0.out.trans (hb.mono (by omega)))
  clear hb
  go_wp2_with fail
  go_ret2
  exact ⟨rfl, HB2.out⟩
set_option maxRecDepth 100000 in
set_option maxHeartbeats 1600000 in
theorem spec_weight_yes (a : Option Addr) (ls : List (List (List Int × Int))) (c : Nat) (n : Int) (w : World) (hr : ReadsL w a ls) (hn : ls.length ≤ 1048576) (hm : ∀ x ∈ ls, x.length ≤ 1048576 ∧ ∀ y ∈ x, y.1.length ≤ 1048576) (hk : netB n ls = true) :
    Calls Try.prog 34 #[.agg #[.int .i64 n, .slice a ls.length c]] w (RetNB (total ls) true w) := by
  have Hhr := Lib.hid hr
  have Hhm := Lib.hid hm
  clear hr hm
  have HK := Lib.hid hk
  have hl6 := net_len hk
  have HT := Lib.hid (show total ls = sw ls.flatten from rfl)
  have HBD := Lib.hid (fun k hk' => total_bd hk k hk')
  have HFN := Lib.hid (fun i hi => fine_net hk i hi)
  have HL4 := Lib.hid (fun i hi => (net_lay hk i hi).2)
  clear hk
  go_enter Try.func34, Try.ntmps34
  obtain ⟨wb1, hw1⟩ : ∃ wb1 : World, wb1 = w.alloc (.cells #[.int .i64 n, .slice a ls.length c] 29) := ⟨_, rfl⟩
  have z1 : wb1.heap.size = w.heap.size + 1 := by rw [hw1]; simp
  have x0_0 := (by rw [hw1]; exact cell_new _ _ _ rfl rfl : wb1.cell? ⟨w.heap.size, 0, none⟩ = some (.int .i64 n))
  have x0_1 := (by rw [hw1]; exact cell_new _ _ _ rfl rfl : wb1.cell? ⟨w.heap.size, 1, none⟩ = some (.slice a ls.length c))
  have HB0 := Lib.hid (show Below w.heap.size w wb1 by rw [hw1]; exact (Below.refl w.heap.size w).alloc (Nat.le_refl _) _)
  have s1 : w.heap.size + 1 ≤ wb1.heap.size := by omega
  have HZ1 := Lib.hid z1
  clear z1
  go_wp2_with fail
  rw [← hw1]
  clear hw1
  refine (spec_good a ls c n wb1 (Hhr.out.below HB0.out) hn Hhm.out true HK).mono ?_
  rintro e w2 ⟨rfl, hb⟩
  replace x0_0 := cell_below hb x0_0 (by omega)
  replace x0_1 := cell_below hb x0_1 (by omega)
  have s2 : w.heap.size + 1 ≤ w2.heap.size := by have := hb.size; omega
  have HB2 := Lib.hid (HB0.out.trans (hb.mono (by omega)))
  clear hb
  go_wp2_with fail
  go_loopw [4, 5] (fun s i wr => ∃ k : Nat, k ≤ ls.length ∧ i = .int .i64 k ∧ s = .int .i64 (sw (ls.take k).flatten) ∧ Below w2.heap.size w2 wr) (fun _ i _ => ls.length - (intOf i).toNat)
  case atStart => exact ⟨0, by omega, rfl, rfl, Below.refl _ _⟩
  case round =>
    obtain ⟨k, hk, rfl, rfl, hbel⟩ := hrel
    replace x0_0 := cell_below hbel x0_0 (by omega)
    replace x0_1 := cell_below hbel x0_1 (by omega)
    by_cases hlt : k < ls.length
    · obtain ⟨b, off, p, q, rfl, hb, hc, hpq, hrow⟩ := (Hhr.out.below HB2.out).at hlt
      have hbg := hbel.size
      replace hc := cell_below hbel hc hb
      have hb' : b < wr.heap.size := by omega
      have HR2 := Lib.hid (hrow.below hbel)
      have HBl := Lib.hid hbel
      have HS := Lib.hid (show sw (ls.take (k + 1)).flatten = sw (ls.take k).flatten + sw (ls.getD k []) by rw [take_snocL ls k hlt, List.flatten_append, sw_append]; simp)
      have hbd := HBD.out k hk
      have HF2 := Lib.hid (HFN.out k hlt)
      have hl4 := HL4.out k hlt
      obtain ⟨wo, hwo⟩ : ∃ wo : World, wo = wr := ⟨_, rfl⟩
      rw [← hwo] at x0_0 x0_1 hbg hc hb' HR2 HBl
      rw [← hwo]
      clear hwo wr hbel hrow hpq hb
      generalize sw (ls.take k).flatten = s at *
      generalize ls.getD k [] = l at *
      go_wp2_with fail
      go_loopw [4, 6] (fun u i wr => ∃ m : Nat, m ≤ l.length ∧ i = .int .i64 m ∧ u = .int .i64 (s + sw (l.take m)) ∧ Below wo.heap.size wo wr) (fun _ i _ => l.length - (intOf i).toNat)
      case atStart => exact ⟨0, Nat.zero_le _, rfl, by simp [sw], Below.refl _ _⟩
      case round =>
        obtain ⟨m, hm', rfl, rfl, hbel⟩ := hrel
        replace x0_0 := cell_below hbel x0_0 (by omega)
        replace x0_1 := cell_below hbel x0_1 (by omega)
        replace hc := cell_below hbel hc hb'
        have hbs := hbel.size
        by_cases hlm : m < l.length
        · obtain ⟨b2, off2, p2, q2, rfl, hb2, hc0, hc1, hpq2, hrow2⟩ := (HR2.out.below hbel).at hlm
          have HR3 := Lib.hid hrow2
          have HBm := Lib.hid hbel
          have hf := HF2.out m hlm
          have HW := Lib.hid hf.2
          have hf4 := hf.1
          have hz := fine_size HF2.out m hlm
          have hy := fine_sum HF2.out m hm'
          have HSS := Lib.hid (sw_succ l m hlm)
          have i1 : (0 : Int) ≤ (m : Int) := by omega
          have i2 : (m : Int) < (l.length : Int) := by omega
          clear hbel hrow2 hpq2 hf
          generalize hws : (l.getD m ([], 0)).1 = ws at *
          generalize (l.getD m ([], 0)).2 = z at *
          generalize sw (l.take m) = y at *
          clear hws
          have HSZ := Lib.hid (fun (wa : World) (hB : Below wr.heap.size wr wa) => spec_size p2 ws q2 wa (HR3.out.below hB) hf4 HW.out)
          generalize size ws = S at *
          go_wp2_with fail
          refine (HSZ.out _ (Below.refl _ _)).mono ?_
          rintro e w9 ⟨rfl, m9, rfl⟩
          have HB9 := Lib.hid (HBm.out.trans ((ints.below_drewN (Below.refl _ _) m9).mono hbs))
          go_wp2_with fail
          go_roundw
          case rel => exact ⟨m + 1, by omega, by go_num, by rw [HSS.out]; go_num, HB9.out⟩
          case measure => simp [intOf]; omega
        · obtain rfl : m = l.length := by omega
          have HB9 := Lib.hid (HBl.out.trans (hbel.mono hbg))
          rw [List.take_length]
          have hy := fine_sum HF2.out l.length (Nat.le_refl _)
          rw [List.take_length] at hy
          generalize sw l = y at *
          clear hbel
          go_wp2_with fail
          go_roundw
          case rel => exact ⟨k + 1, by omega, by go_num, by rw [HS.out], HB9.out⟩
          case measure => simp [intOf]; omega
    · obtain rfl : k = ls.length := by omega
      rw [List.take_length, ← HT.out]
      have HB9 := Lib.hid (HB2.out.trans (hbel.mono (by omega)))
      clear hbel
      go_wp2_with fail
      go_ret2
      exact ⟨rfl, HB9.out⟩
set_option maxRecDepth 100000 in
set_option maxHeartbeats 1600000 in
theorem impl_weight_yes (a : Option Addr) (ls : List (List (List Int × Int))) (c : Nat) (n : Int) (w : World) (hr : ReadsL w a ls) (hn : ls.length ≤ 1048576) (hm : ∀ x ∈ ls, x.length ≤ 1048576 ∧ ∀ y ∈ x, y.1.length ≤ 1048576) (hk : netB n ls = true) :
    Calls Try.prog 35 #[.agg #[.int .i64 n, .slice a ls.length c]] w (RetNB (total ls) true w) := by
  have Hhr := Lib.hid hr
  have Hhm := Lib.hid hm
  clear hr hm
  have HK := Lib.hid hk
  have hfl := flat_sum n hk
  have hl6 := net_len hk
  have HLY := Lib.hid (fun i hi => (net_lay hk i hi).1)
  have HT := Lib.hid (show total ls = sw ls.flatten from rfl)
  have HFN := Lib.hid (show Fine ls.flatten by have := fine_flat hk ls.length (Nat.le_refl _); rwa [List.take_length] at this)
  clear hk
  generalize total ls = TT at *
  go_enter Try.func35, Try.ntmps35
  obtain ⟨wb1, hw1⟩ : ∃ wb1 : World, wb1 = w.alloc (.cells #[.int .i64 n, .slice a ls.length c] 29) := ⟨_, rfl⟩
  have z1 : wb1.heap.size = w.heap.size + 1 := by rw [hw1]; simp
  have x0_0 := (by rw [hw1]; exact cell_new _ _ _ rfl rfl : wb1.cell? ⟨w.heap.size, 0, none⟩ = some (.int .i64 n))
  have x0_1 := (by rw [hw1]; exact cell_new _ _ _ rfl rfl : wb1.cell? ⟨w.heap.size, 1, none⟩ = some (.slice a ls.length c))
  have HB0 := Lib.hid (show Below w.heap.size w wb1 by rw [hw1]; exact (Below.refl w.heap.size w).alloc (Nat.le_refl _) _)
  have s1 : w.heap.size + 1 ≤ wb1.heap.size := by omega
  have HZ1 := Lib.hid z1
  clear z1
  go_wp2_with fail
  rw [← hw1]
  clear hw1
  refine (impl_net a ls c n wb1 (Hhr.out.below HB0.out) hn Hhm.out true HK).mono ?_
  rintro e w2 ⟨rfl, hb⟩
  replace x0_0 := cell_below hb x0_0 (by omega)
  replace x0_1 := cell_below hb x0_1 (by omega)
  have s2 : w.heap.size + 1 ≤ w2.heap.size := by have := hb.size; omega
  have HB2 := Lib.hid (HB0.out.trans (hb.mono (by omega)))
  clear hb
  go_wp2_with fail
  refine (concatL a ls c w2 (Hhr.out.below HB2.out) hl6.1 (by omega) HLY.out (by omega)).mono ?_
  rintro e w3 ⟨p, c', rfl, hrj, _, hb3⟩
  have HB3 := Lib.hid (HB2.out.trans (hb3.mono (by omega)))
  have HRJ := Lib.hid hrj
  clear hb3 hrj
  generalize ls.flatten = fl at *
  go_wp2_with fail
  go_loopw [4, 14] (fun u i wr => ∃ m : Nat, m ≤ fl.length ∧ i = .int .i64 m ∧ u = .int .i64 (sw (fl.take m)) ∧ Below w3.heap.size w3 wr) (fun _ i _ => fl.length - (intOf i).toNat)
  case atStart => exact ⟨0, Nat.zero_le _, rfl, rfl, Below.refl _ _⟩
  case round =>
    obtain ⟨m, hm', rfl, rfl, hbel⟩ := hrel
    have hbs := hbel.size
    by_cases hlm : m < fl.length
    · obtain ⟨b2, off2, p2, q2, rfl, hb2, hc0, hc1, hpq2, hrow2⟩ := (HRJ.out.below hbel).at hlm
      have hf := HFN.out m hlm
      have HW := Lib.hid hf.2
      have hf4 := hf.1
      have hz := fine_size HFN.out m hlm
      have hy := fine_sum HFN.out m hm'
      have HSS := Lib.hid (sw_succ fl m hlm)
      have i1 : (0 : Int) ≤ (m : Int) := by omega
      have i2 : (m : Int) < (fl.length : Int) := by omega
      generalize hws : (fl.getD m ([], 0)).1 = ws at *
      generalize (fl.getD m ([], 0)).2 = z at *
      generalize sw (fl.take m) = y at *
      clear hws hf
      have HB9 := Lib.hid (hbel.alloc hbs (.cells #[.slice p2 ws.length q2, .int .i64 z] 86))
      have HSZ := Lib.hid (impl_size p2 ws q2 _ (hrow2.below (below_alloc wr (.cells #[.slice p2 ws.length q2, .int .i64 z] 86))) hf4 HW.out)
      generalize size ws = S at *
      clear hbel hrow2 hpq2
      go_wp2_with fail
      refine HSZ.out.mono ?_
      rintro e w9 ⟨rfl, hb9⟩
      have HB8 := Lib.hid (HB9.out.trans (hb9.mono HB9.out.size))
      clear hb9
      go_wp2_with fail
      go_roundw
      case rel => exact ⟨m + 1, by omega, by go_num, by first | (rw [HSS.out]; done) | (rw [HSS.out]; go_num), HB8.out⟩
      case measure => simp [intOf]; omega
    · obtain rfl : m = fl.length := by omega
      rw [List.take_length, ← HT.out]
      have HB9 := Lib.hid (HB3.out.trans (hbel.mono HB3.out.size))
      clear hbel
      go_wp2_with fail
      go_ret2
      exact ⟨rfl, HB9.out⟩
end Go.Proofs.Ytoephhhofkmgjaa.weightn
