/- Several texts in one. -/
import Derived.BigQuiet
import Derived.Deep.DrawnRows
import Derived.Deep.RegionHeld3
import Derived.Test.YthohnnobahcdpaaBrG47
import Derived.Test.YthohnnobahcdpaaBrG46
import Derived.Test.YthohnnobahcdpaaBrG39
namespace Go.Proofs.Ythohnnobahcdpaa.boundb
open Go.RowKit own pp nums range samplesv samplest dots sides both sidesof misof mistakes hefts wm bndp stmp stmo stms stmt margin even boostp boostl bestp bests boosts boosti
set_option linter.unusedVariables false
set_option linter.unusedSimpArgs false

/-- The sum of the first k numbers. -/
def sumTo (zs : List Int) : Nat → Int
  | 0 => 0
  | k + 1 => sumTo zs k + zs.getD k 0
theorem sumTo_bd {zs : List Int} {B : Int} (h : ∀ j, j < zs.length → -B ≤ zs.getD j 0 ∧ zs.getD j 0 ≤ B) (k : Nat) (hk : k ≤ zs.length) : -(B * (k : Int)) ≤ sumTo zs k ∧ sumTo zs k ≤ B * (k : Int) := by
  induction k with
  | zero => simp [sumTo]
  | succ k ih =>
    have h1 := ih (by omega)
    have h2 := h k (by omega)
    show _ ≤ sumTo zs k + zs.getD k 0 ∧ sumTo zs k + zs.getD k 0 ≤ _
    have e : B * ((k + 1 : Nat) : Int) = B * (k : Int) + B := by rw [Int.natCast_add, Int.mul_add]; simp
    rw [e]
    omega
set_option maxRecDepth 100000 in
set_option maxHeartbeats 1600000 in
theorem impl_sum (a : Option Addr) (zs : List Int) (c : Nat) (w : World) (hr : ints.Reads .i64 w a zs) (hn : zs.length ≤ 1000) (hz : ∀ j, j < zs.length → -1000000 ≤ zs.getD j 0 ∧ zs.getD j 0 ≤ 1000000) :
    Calls Try.prog 85 #[.slice a zs.length c] w (fun e w' => e = .returned (.int .i64 (sumTo zs zs.length)) ∧ w = w') := by
  have HZ := Lib.hid hz
  clear hz
  go_enter Try.func85, Try.ntmps85
  go_wp2_with fail
  go_loopw [3, 8] (fun s i wr => ∃ k : Nat, k ≤ zs.length ∧ i = .int .i64 k ∧ s = .int .i64 (sumTo zs k) ∧ w = wr) (fun _ i _ => zs.length - (intOf i).toNat)
  case atStart => exact ⟨0, Nat.zero_le _, rfl, rfl, rfl⟩
  case round =>
    obtain ⟨k, hk, rfl, rfl, rfl⟩ := hrel
    have hbd := sumTo_bd HZ.out k hk
    by_cases hlt : k < zs.length
    · obtain ⟨b, off, rfl, hb, hc⟩ := hr.at hlt
      have hz := HZ.out k hlt
      have HS := Lib.hid (show sumTo zs (k + 1) = sumTo zs k + zs.getD k 0 from rfl)
      have i1 : (0 : Int) ≤ (k : Int) := by omega
      have i2 : (k : Int) < (zs.length : Int) := by omega
      generalize sumTo zs k = s at *
      generalize zs.getD k 0 = z at *
      go_wp2_with fail
      go_roundw
      case rel => exact ⟨k + 1, by omega, by go_num, by rw [HS.out], trivial⟩
      case measure => simp [intOf]; omega
    · obtain rfl : k = zs.length := by omega
      go_wp2_with fail
      go_ret
      exact ⟨rfl, rfl⟩
def bkB (rows : List (List Int)) (zs : List Int) (lo n : Int) : Bool := hpB rows zs && (decide (lo ≤ n) && decide (n ≤ 8))
def bndV (rows : List (List Int)) (zs : List Int) (R : Nat) : Int := sumTo (hfTo rows zs R) (hfTo rows zs R).length / 2 ^ ((R + 1) / 2)
theorem bk_yes {rows : List (List Int)} {zs : List Int} {lo n : Int} (h : bkB rows zs lo n = true) (h0 : 0 ≤ lo) : hpB rows zs = true ∧ ∃ R : Nat, n = R ∧ lo ≤ n ∧ R ≤ 8 := by
  unfold bkB at h
  simp only [Bool.and_eq_true, decide_eq_true_eq] at h
  exact ⟨h.1, n.toNat, by omega, h.2.1, by omega⟩
theorem hf_sum (rows : List (List Int)) (zs : List Int) (R : Nat) (h : R ≤ 8) (h16 : rows.length ≤ 16) (k : Nat) (hk : k ≤ (hfTo rows zs R).length) : -1000000000 ≤ sumTo (hfTo rows zs R) k ∧ sumTo (hfTo rows zs R) k ≤ 1000000000 := by
  have h1 := sumTo_bd (zs := hfTo rows zs R) (B := 1000000) (fun j hj => by
    have h2 := numsR_at ((heftsB_iff _ _).1 (hf_hefts rows zs R h)).1 j hj
    omega) k hk
  have h3 := hfTo_length rows zs R
  have h4 : (k : Int) ≤ 16 := by omega
  omega
theorem ret_none {W w1 : World} (h : Below W.heap.size W w1) : RetJIB [] [] false W (.returned (.tuple #[.slice (some ⟨w1.heap.size, 0, none⟩) 0 0, .slice (some ⟨w1.heap.size + 1, 0, none⟩) 0 0, .bool false])) ((w1.alloc (.cells #[] 27)).alloc (.cells #[] 3)) := by
  have hs := h.size
  have e1 : (w1.alloc (.cells #[] 27)).heap.size = w1.heap.size + 1 := by simp
  have hI := own_empty (w1.alloc (.cells #[] 27))
  rw [e1] at hI
  refine ⟨_, _, rfl, ⟨w1.heap.size + 1, [], rfl, hI.mono (by omega) (by simp), OwnK.mono' (OwnK.below (emptyJ w1) (below_alloc _ _)) hs (by simp), ⟨fun g hg => ?_, fun i hi => absurd hi (by simp)⟩⟩, (h.alloc hs _).alloc (by omega) _⟩
  have e2 : w1.heap.size = g := by simpa [Value.ownBlock] using hg
  omega
set_option maxRecDepth 100000 in
set_option maxHeartbeats 1600000 in
theorem impl_rounds_no (a : Option Addr) (rows : List (List Int)) (c : Nat) (a' : Option Addr) (zs : List Int) (c' : Nat) (n : Int) (w : World) (hr : grid.Reads w a rows) (hz : ints.Reads .i64 w a' zs) (hn : rows.length ≤ 1048576) (hk : zs.length ≤ 1048576) (hm : ∀ r ∈ rows, r.length ≤ 1048576) (h : bkB rows zs 0 n = false) :
    Calls Try.prog 40 #[.agg #[.slice a rows.length c, .slice a' zs.length c'], .int .i64 n] w (RetJIB [] [] false w) := by
  have Hhr := Lib.hid hr
  have Hhz := Lib.hid hz
  have Hhm := Lib.hid hm
  clear hr hz hm
  cases hp9 : hpB rows zs
  · have HP := Lib.hid hp9
    clear h hp9
    go_enter Try.func40, Try.ntmps40
    obtain ⟨wb1, hw1⟩ : ∃ wb1 : World, wb1 = w.alloc (.cells #[.slice a rows.length c, .slice a' zs.length c'] 38) := ⟨_, rfl⟩
    have z1 : wb1.heap.size = w.heap.size + 1 := by rw [hw1]; simp
    have x0_0 := (by rw [hw1]; exact cell_new _ _ _ rfl rfl : wb1.cell? ⟨w.heap.size, 0, none⟩ = some (.slice a rows.length c))
    have x0_1 := (by rw [hw1]; exact cell_new _ _ _ rfl rfl : wb1.cell? ⟨w.heap.size, 1, none⟩ = some (.slice a' zs.length c'))
    have HB0 := Lib.hid (show Below w.heap.size w wb1 by rw [hw1]; exact (Below.refl w.heap.size w).alloc (Nat.le_refl _) _)
    have s1 : w.heap.size + 1 ≤ wb1.heap.size := by omega
    have HZ1 := Lib.hid z1
    clear z1
    go_wp2_with fail
    rw [← hw1]
    clear hw1
    refine (impl_hasPoints a rows c a' zs c' _ (Hhr.out.below HB0.out) (Hhz.out.below HB0.out) hn hk Hhm.out false HP).mono ?_
    rintro e w2 ⟨rfl, hb2⟩
    have HB2 := Lib.hid (HB0.out.trans (hb2.mono (by omega)))
    clear hb2 x0_0 x0_1
    go_wp2_with fail
    go_ret3
    exact ret_none HB2.out
  · have hx : ¬ (0 ≤ n ∧ n ≤ 8) := fun e => by unfold bkB at h; rw [hp9] at h; simp at h; omega
    have HP := Lib.hid hp9
    clear h hp9
    by_cases h0 : n < 0
    · have g : decide (n < 0) = true := decide_eq_true h0
      go_enter Try.func40, Try.ntmps40
      obtain ⟨wb1, hw1⟩ : ∃ wb1 : World, wb1 = w.alloc (.cells #[.slice a rows.length c, .slice a' zs.length c'] 38) := ⟨_, rfl⟩
      have z1 : wb1.heap.size = w.heap.size + 1 := by rw [hw1]; simp
      have x0_0 := (by rw [hw1]; exact cell_new _ _ _ rfl rfl : wb1.cell? ⟨w.heap.size, 0, none⟩ = some (.slice a rows.length c))
      have x0_1 := (by rw [hw1]; exact cell_new _ _ _ rfl rfl : wb1.cell? ⟨w.heap.size, 1, none⟩ = some (.slice a' zs.length c'))
      have HB0 := Lib.hid (show Below w.heap.size w wb1 by rw [hw1]; exact (Below.refl w.heap.size w).alloc (Nat.le_refl _) _)
      have s1 : w.heap.size + 1 ≤ wb1.heap.size := by omega
      have HZ1 := Lib.hid z1
      clear z1
      go_wp2_with fail
      rw [← hw1]
      clear hw1
      refine (impl_hasPoints a rows c a' zs c' _ (Hhr.out.below HB0.out) (Hhz.out.below HB0.out) hn hk Hhm.out true HP).mono ?_
      rintro e w2 ⟨rfl, hb2⟩
      have HB2 := Lib.hid (HB0.out.trans (hb2.mono (by omega)))
      clear hb2 x0_0 x0_1
      go_wp2_with fail
      go_ret3
      exact ret_none HB2.out
    · have g : decide (n < 0) = false := decide_eq_false h0
      have g2 : decide (8 < n) = true := decide_eq_true (by omega)
      go_enter Try.func40, Try.ntmps40
      obtain ⟨wb1, hw1⟩ : ∃ wb1 : World, wb1 = w.alloc (.cells #[.slice a rows.length c, .slice a' zs.length c'] 38) := ⟨_, rfl⟩
      have z1 : wb1.heap.size = w.heap.size + 1 := by rw [hw1]; simp
      have x0_0 := (by rw [hw1]; exact cell_new _ _ _ rfl rfl : wb1.cell? ⟨w.heap.size, 0, none⟩ = some (.slice a rows.length c))
      have x0_1 := (by rw [hw1]; exact cell_new _ _ _ rfl rfl : wb1.cell? ⟨w.heap.size, 1, none⟩ = some (.slice a' zs.length c'))
      have HB0 := Lib.hid (show Below w.heap.size w wb1 by rw [hw1]; exact (Below.refl w.heap.size w).alloc (Nat.le_refl _) _)
      have s1 : w.heap.size + 1 ≤ wb1.heap.size := by omega
      have HZ1 := Lib.hid z1
      clear z1
      go_wp2_with fail
      rw [← hw1]
      clear hw1
      refine (impl_hasPoints a rows c a' zs c' _ (Hhr.out.below HB0.out) (Hhz.out.below HB0.out) hn hk Hhm.out true HP).mono ?_
      rintro e w2 ⟨rfl, hb2⟩
      have HB2 := Lib.hid (HB0.out.trans (hb2.mono (by omega)))
      clear hb2 x0_0 x0_1
      go_wp2_with fail
      go_ret3
      exact ret_none HB2.out
set_option maxRecDepth 100000 in
set_option maxHeartbeats 1600000 in
theorem spec_bound_no (a : Option Addr) (rows : List (List Int)) (c : Nat) (a' : Option Addr) (zs : List Int) (c' : Nat) (n : Int) (w : World) (hr : grid.Reads w a rows) (hz : ints.Reads .i64 w a' zs) (hn : rows.length ≤ 1048576) (hk : zs.length ≤ 1048576) (hm : ∀ r ∈ rows, r.length ≤ 1048576) (h : bkB rows zs 1 n = false) :
    Calls Try.prog 42 #[.agg #[.slice a rows.length c, .slice a' zs.length c'], .int .i64 n] w (RetNB 0 false w) := by
  have Hhr := Lib.hid hr
  have Hhz := Lib.hid hz
  have Hhm := Lib.hid hm
  clear hr hz hm
  cases hp9 : hpB rows zs
  · have HP := Lib.hid hp9
    clear h hp9
    go_enter Try.func42, Try.ntmps42
    obtain ⟨wb1, hw1⟩ : ∃ wb1 : World, wb1 = w.alloc (.cells #[.slice a rows.length c, .slice a' zs.length c'] 38) := ⟨_, rfl⟩
    have z1 : wb1.heap.size = w.heap.size + 1 := by rw [hw1]; simp
    have x0_0 := (by rw [hw1]; exact cell_new _ _ _ rfl rfl : wb1.cell? ⟨w.heap.size, 0, none⟩ = some (.slice a rows.length c))
    have x0_1 := (by rw [hw1]; exact cell_new _ _ _ rfl rfl : wb1.cell? ⟨w.heap.size, 1, none⟩ = some (.slice a' zs.length c'))
    have HB0 := Lib.hid (show Below w.heap.size w wb1 by rw [hw1]; exact (Below.refl w.heap.size w).alloc (Nat.le_refl _) _)
    have s1 : w.heap.size + 1 ≤ wb1.heap.size := by omega
    have HZ1 := Lib.hid z1
    clear z1
    go_wp2_with fail
    rw [← hw1]
    clear hw1
    refine (spec_some a rows c a' zs c' _ (Hhr.out.below HB0.out) (Hhz.out.below HB0.out) hn hk Hhm.out false HP).mono ?_
    rintro e w2 ⟨rfl, hb2⟩
    have HB2 := Lib.hid (HB0.out.trans (hb2.mono (by omega)))
    have y0_0 := cell_below hb2 x0_0 (by omega)
    have y0_1 := cell_below hb2 x0_1 (by omega)
    have s2 := hb2.size
    clear hb2 x0_0 x0_1
    go_wp2_with fail
    go_ret2
    exact ⟨rfl, HB2.out⟩
  · have HX := Lib.hid (show (decide (1 ≤ n) && decide (n ≤ 8)) = false by rw [← h]; unfold bkB; rw [hp9]; rfl)
    have HP := Lib.hid hp9
    clear h hp9
    go_enter Try.func42, Try.ntmps42
    obtain ⟨wb1, hw1⟩ : ∃ wb1 : World, wb1 = w.alloc (.cells #[.slice a rows.length c, .slice a' zs.length c'] 38) := ⟨_, rfl⟩
    have z1 : wb1.heap.size = w.heap.size + 1 := by rw [hw1]; simp
    have x0_0 := (by rw [hw1]; exact cell_new _ _ _ rfl rfl : wb1.cell? ⟨w.heap.size, 0, none⟩ = some (.slice a rows.length c))
    have x0_1 := (by rw [hw1]; exact cell_new _ _ _ rfl rfl : wb1.cell? ⟨w.heap.size, 1, none⟩ = some (.slice a' zs.length c'))
    have HB0 := Lib.hid (show Below w.heap.size w wb1 by rw [hw1]; exact (Below.refl w.heap.size w).alloc (Nat.le_refl _) _)
    have s1 : w.heap.size + 1 ≤ wb1.heap.size := by omega
    have HZ1 := Lib.hid z1
    clear z1
    go_wp2_with fail
    rw [← hw1]
    clear hw1
    refine (spec_some a rows c a' zs c' _ (Hhr.out.below HB0.out) (Hhz.out.below HB0.out) hn hk Hhm.out true HP).mono ?_
    rintro e w2 ⟨rfl, hb2⟩
    have HB2 := Lib.hid (HB0.out.trans (hb2.mono (by omega)))
    have y0_0 := cell_below hb2 x0_0 (by omega)
    have y0_1 := cell_below hb2 x0_1 (by omega)
    have s2 := hb2.size
    clear hb2 x0_0 x0_1
    go_wp2_with fail
    refine (in_any _ _ _ _ false HX).mono ?_
    rintro e w' ⟨rfl, rfl⟩
    go_wp2_with fail
    go_ret2
    exact ⟨rfl, HB2.out⟩
set_option maxRecDepth 100000 in
set_option maxHeartbeats 1600000 in
theorem spec_bound_yes (a : Option Addr) (rows : List (List Int)) (c : Nat) (a' : Option Addr) (zs : List Int) (c' : Nat) (n : Int) (w : World) (hr : grid.Reads w a rows) (hz : ints.Reads .i64 w a' zs) (hn : rows.length ≤ 1048576) (hk : zs.length ≤ 1048576) (hm : ∀ r ∈ rows, r.length ≤ 1048576) (h : bkB rows zs 1 n = true) :
    Calls Try.prog 42 #[.agg #[.slice a rows.length c, .slice a' zs.length c'], .int .i64 n] w (RetNB (bndV rows zs n.toNat) true w) := by
  obtain ⟨hp, R, rfl, hlo, h8⟩ := bk_yes h (by omega)
  have HX := Lib.hid (show (decide ((1 : Int) ≤ (R : Int)) && decide ((R : Int) ≤ 8)) = true by simp; omega)
  have h16 := (row4 hp).2
  have HP := Lib.hid hp
  have HBO := Lib.hid (fun (wa : World) (hB : Below w.heap.size w wa) => spec_boost a rows c a' zs c' R wa (hr.below hB) (hz.below hB) hn hk hm h8 hp)
  have Hhr := Lib.hid hr
  have Hhz := Lib.hid hz
  have Hhm := Lib.hid hm
  clear hr hz hm
  clear h hp
  go_enter Try.func42, Try.ntmps42
  obtain ⟨wb1, hw1⟩ : ∃ wb1 : World, wb1 = w.alloc (.cells #[.slice a rows.length c, .slice a' zs.length c'] 38) := ⟨_, rfl⟩
  have z1 : wb1.heap.size = w.heap.size + 1 := by rw [hw1]; simp
  have x0_0 := (by rw [hw1]; exact cell_new _ _ _ rfl rfl : wb1.cell? ⟨w.heap.size, 0, none⟩ = some (.slice a rows.length c))
  have x0_1 := (by rw [hw1]; exact cell_new _ _ _ rfl rfl : wb1.cell? ⟨w.heap.size, 1, none⟩ = some (.slice a' zs.length c'))
  have HB0 := Lib.hid (show Below w.heap.size w wb1 by rw [hw1]; exact (Below.refl w.heap.size w).alloc (Nat.le_refl _) _)
  have s1 : w.heap.size + 1 ≤ wb1.heap.size := by omega
  have HZ1 := Lib.hid z1
  clear z1
  go_wp2_with fail
  rw [← hw1]
  clear hw1
  refine (spec_some a rows c a' zs c' _ (Hhr.out.below HB0.out) (Hhz.out.below HB0.out) hn hk Hhm.out true HP).mono ?_
  rintro e w2 ⟨rfl, hb2⟩
  have HB2 := Lib.hid (HB0.out.trans (hb2.mono (by omega)))
  have y0_0 := cell_below hb2 x0_0 (by omega)
  have y0_1 := cell_below hb2 x0_1 (by omega)
  have s2 := hb2.size
  clear hb2 x0_0 x0_1
  go_wp2_with fail
  refine (in_any _ _ _ _ true HX).mono ?_
  rintro e w' ⟨rfl, rfl⟩
  go_wp2_with fail
  refine (HBO.out _ HB2.out).mono ?_
  rintro e w3 ⟨v3, u3, rfl, ⟨gh, cs3, hgh, hoi, _, _⟩, hb3⟩
  obtain ⟨pu, qu, hu3, hru, _, _⟩ := hoi.slice
  subst hu3
  have HB3 := Lib.hid (HB2.out.trans (hb3.mono (by omega)))
  have HRU := Lib.hid hru
  have HSB := Lib.hid (fun k hk => hf_sum rows zs R h8 h16 k hk)
  have hhl := hfTo_length rows zs R
  have HFB := Lib.hid (fun j hj => numsR_at ((heftsB_iff _ _).1 (hf_hefts rows zs R h8)).1 j hj)
  have HV := Lib.hid (show bndV rows zs R = sumTo (hfTo rows zs R) (hfTo rows zs R).length / 2 ^ ((R + 1) / 2) from rfl)
  clear hb3 hoi hru hgh y0_0 y0_1
  generalize hfTo rows zs R = hs at *
  go_wp2_with fail
  go_loopw [8, 9] (fun s i wr => ∃ k : Nat, k ≤ hs.length ∧ i = .int .i64 k ∧ s = .int .i64 (sumTo hs k) ∧ w3 = wr) (fun _ i _ => hs.length - (intOf i).toNat)
  case atStart => exact ⟨0, Nat.zero_le _, rfl, rfl, rfl⟩
  case round =>
    obtain ⟨k, hk9, rfl, rfl, rfl⟩ := hrel
    have hbd := HSB.out k hk9
    by_cases hlt : k < hs.length
    · obtain ⟨b9, off, rfl, hb9, hc9⟩ := HRU.out.at hlt
      have hz9 := HFB.out k hlt
      have HS := Lib.hid (show sumTo hs (k + 1) = sumTo hs k + hs.getD k 0 from rfl)
      have i1 : (0 : Int) ≤ (k : Int) := by omega
      have i2 : (k : Int) < (hs.length : Int) := by omega
      generalize sumTo hs k = s at *
      generalize hs.getD k 0 = z at *
      go_wp2_with fail
      go_roundw
      case rel => exact ⟨k + 1, by omega, by go_num, by rw [HS.out], trivial⟩
      case measure => simp [intOf]; omega
    · obtain rfl : k = hs.length := by omega
      generalize sumTo hs hs.length = s at *
      have e1 : IntKind.i64.wrap ((R : Int) + 1) = ((R + 1 : Nat) : Int) := by rw [IntWalk.i64_in _ (by omega)]; omega
      have HFin := Lib.hid (show RetNB (bndV rows zs ((R : Nat) : Int).toNat) true w (.returned (.tuple #[.int .i64 (s / 2 ^ ((R + 1) / 2)), .bool true])) w3 from ⟨by rw [Int.toNat_natCast, HV.out], HB3.out⟩)
      go_wp2_with fail
      go_ret2
      exact HFin.out
set_option maxRecDepth 100000 in
set_option maxHeartbeats 1600000 in
theorem impl_bound_no (a : Option Addr) (rows : List (List Int)) (c : Nat) (a' : Option Addr) (zs : List Int) (c' : Nat) (n : Int) (w : World) (hr : grid.Reads w a rows) (hz : ints.Reads .i64 w a' zs) (hn : rows.length ≤ 1048576) (hk : zs.length ≤ 1048576) (hm : ∀ r ∈ rows, r.length ≤ 1048576) (h : bkB rows zs 1 n = false) :
    Calls Try.prog 43 #[.agg #[.slice a rows.length c, .slice a' zs.length c'], .int .i64 n] w (RetNB 0 false w) := by
  by_cases h0 : bkB rows zs 0 n = true
  · obtain ⟨hp, R, rfl, hlo, h8⟩ := bk_yes h0 (by omega)
    have h1 : R = 0 := by
      unfold bkB at h
      rw [hp] at h
      simp at h
      omega
    subst h1
    have HBO := Lib.hid (fun (wa : World) (hB : Below w.heap.size w wa) => impl_rounds_yes a rows c a' zs c' 0 wa (hr.below hB) (hz.below hB) hn hk hm h8 hp)
    have Hhr := Lib.hid hr
    have Hhz := Lib.hid hz
    have Hhm := Lib.hid hm
    clear hr hz hm
    clear h hp h0 hlo h8
    go_enter Try.func43, Try.ntmps43
    obtain ⟨wb1, hw1⟩ : ∃ wb1 : World, wb1 = w.alloc (.cells #[.slice a rows.length c, .slice a' zs.length c'] 38) := ⟨_, rfl⟩
    have z1 : wb1.heap.size = w.heap.size + 1 := by rw [hw1]; simp
    have x0_0 := (by rw [hw1]; exact cell_new _ _ _ rfl rfl : wb1.cell? ⟨w.heap.size, 0, none⟩ = some (.slice a rows.length c))
    have x0_1 := (by rw [hw1]; exact cell_new _ _ _ rfl rfl : wb1.cell? ⟨w.heap.size, 1, none⟩ = some (.slice a' zs.length c'))
    have HB0 := Lib.hid (show Below w.heap.size w wb1 by rw [hw1]; exact (Below.refl w.heap.size w).alloc (Nat.le_refl _) _)
    have s1 : w.heap.size + 1 ≤ wb1.heap.size := by omega
    have HZ1 := Lib.hid z1
    clear z1
    go_wp2_with fail
    rw [← hw1]
    clear hw1
    refine (HBO.out _ HB0.out).mono ?_
    rintro e w3 ⟨v3, u3, rfl, ⟨gh, cs3, hgh, hoi, _, _⟩, hb3⟩
    have HB3 := Lib.hid (HB0.out.trans (hb3.mono (by omega)))
    clear hb3 hoi hgh x0_0 x0_1
    go_wp2_with fail
    go_ret2
    exact ⟨rfl, HB3.out⟩
  · have h1 : bkB rows zs 0 n = false := by simpa using h0
    have HBO := Lib.hid (fun (wa : World) (hB : Below w.heap.size w wa) => impl_rounds_no a rows c a' zs c' n wa (hr.below hB) (hz.below hB) hn hk hm h1)
    have Hhr := Lib.hid hr
    have Hhz := Lib.hid hz
    have Hhm := Lib.hid hm
    clear hr hz hm
    clear h h0 h1
    go_enter Try.func43, Try.ntmps43
    obtain ⟨wb1, hw1⟩ : ∃ wb1 : World, wb1 = w.alloc (.cells #[.slice a rows.length c, .slice a' zs.length c'] 38) := ⟨_, rfl⟩
    have z1 : wb1.heap.size = w.heap.size + 1 := by rw [hw1]; simp
    have x0_0 := (by rw [hw1]; exact cell_new _ _ _ rfl rfl : wb1.cell? ⟨w.heap.size, 0, none⟩ = some (.slice a rows.length c))
    have x0_1 := (by rw [hw1]; exact cell_new _ _ _ rfl rfl : wb1.cell? ⟨w.heap.size, 1, none⟩ = some (.slice a' zs.length c'))
    have HB0 := Lib.hid (show Below w.heap.size w wb1 by rw [hw1]; exact (Below.refl w.heap.size w).alloc (Nat.le_refl _) _)
    have s1 : w.heap.size + 1 ≤ wb1.heap.size := by omega
    have HZ1 := Lib.hid z1
    clear z1
    go_wp2_with fail
    rw [← hw1]
    clear hw1
    refine (HBO.out _ HB0.out).mono ?_
    rintro e w3 ⟨v3, u3, rfl, ⟨gh, cs3, hgh, hoi, _, _⟩, hb3⟩
    have HB3 := Lib.hid (HB0.out.trans (hb3.mono (by omega)))
    clear hb3 hoi hgh x0_0 x0_1
    go_wp2_with fail
    go_ret2
    exact ⟨rfl, HB3.out⟩
set_option maxRecDepth 100000 in
set_option maxHeartbeats 1600000 in
theorem impl_bound_yes (a : Option Addr) (rows : List (List Int)) (c : Nat) (a' : Option Addr) (zs : List Int) (c' : Nat) (n : Int) (w : World) (hr : grid.Reads w a rows) (hz : ints.Reads .i64 w a' zs) (hn : rows.length ≤ 1048576) (hk : zs.length ≤ 1048576) (hm : ∀ r ∈ rows, r.length ≤ 1048576) (h : bkB rows zs 1 n = true) :
    Calls Try.prog 43 #[.agg #[.slice a rows.length c, .slice a' zs.length c'], .int .i64 n] w (RetNB (bndV rows zs n.toNat) true w) := by
  obtain ⟨hp, R, rfl, hlo, h8⟩ := bk_yes h (by omega)
  have h16 := (row4 hp).2
  have HBO := Lib.hid (fun (wa : World) (hB : Below w.heap.size w wa) => impl_rounds_yes a rows c a' zs c' R wa (hr.below hB) (hz.below hB) hn hk hm h8 hp)
  have g0 : ((R : Int) == 0) = false := by simp; omega
  have Hhr := Lib.hid hr
  have Hhz := Lib.hid hz
  have Hhm := Lib.hid hm
  clear hr hz hm
  clear h hp
  go_enter Try.func43, Try.ntmps43
  obtain ⟨wb1, hw1⟩ : ∃ wb1 : World, wb1 = w.alloc (.cells #[.slice a rows.length c, .slice a' zs.length c'] 38) := ⟨_, rfl⟩
  have z1 : wb1.heap.size = w.heap.size + 1 := by rw [hw1]; simp
  have x0_0 := (by rw [hw1]; exact cell_new _ _ _ rfl rfl : wb1.cell? ⟨w.heap.size, 0, none⟩ = some (.slice a rows.length c))
  have x0_1 := (by rw [hw1]; exact cell_new _ _ _ rfl rfl : wb1.cell? ⟨w.heap.size, 1, none⟩ = some (.slice a' zs.length c'))
  have HB0 := Lib.hid (show Below w.heap.size w wb1 by rw [hw1]; exact (Below.refl w.heap.size w).alloc (Nat.le_refl _) _)
  have s1 : w.heap.size + 1 ≤ wb1.heap.size := by omega
  have HZ1 := Lib.hid z1
  clear z1
  go_wp2_with fail
  rw [← hw1]
  clear hw1
  refine (HBO.out _ HB0.out).mono ?_
  rintro e w3 ⟨v3, u3, rfl, ⟨gh, cs3, hgh, hoi, _, _⟩, hb3⟩
  have HB3 := Lib.hid (HB0.out.trans (hb3.mono (by omega)))
  obtain ⟨pu, qu, hu3, hru, _, _⟩ := hoi.slice
  subst hu3
  have HSB := Lib.hid (hf_sum rows zs R h8 h16 _ (Nat.le_refl _))
  have HSM := Lib.hid (impl_sum pu (hfTo rows zs R) qu w3 hru (by rw [hfTo_length]; omega) (fun j hj => by
    have h2 := numsR_at ((heftsB_iff _ _).1 (hf_hefts rows zs R h8)).1 j hj
    omega))
  have HV := Lib.hid (show bndV rows zs R = sumTo (hfTo rows zs R) (hfTo rows zs R).length / 2 ^ ((R + 1) / 2) from rfl)
  clear hb3 hoi hru hgh x0_0 x0_1
  generalize hfTo rows zs R = hs at *
  generalize sumTo hs hs.length = s at *
  have hsb := HSB.out
  have e1 : IntKind.i64.wrap ((R : Int) + 1) = ((R + 1 : Nat) : Int) := by rw [IntWalk.i64_in _ (by omega)]; omega
  have HFin := Lib.hid (show RetNB (bndV rows zs ((R : Nat) : Int).toNat) true w (.returned (.tuple #[.int .i64 (s / 2 ^ ((R + 1) / 2)), .bool true])) w3 from ⟨by rw [Int.toNat_natCast, HV.out], HB3.out⟩)
  go_wp2_with fail
  refine HSM.out.mono ?_
  rintro e w' ⟨rfl, rfl⟩
  go_wp2_with fail
  go_ret2
  exact HFin.out
end Go.Proofs.Ythohnnobahcdpaa.boundb
