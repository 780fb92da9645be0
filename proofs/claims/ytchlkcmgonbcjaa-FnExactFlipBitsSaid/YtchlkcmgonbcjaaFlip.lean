/- The walks of a table with some bits turned: the model's and the program's. -/
import Derived.Test.YtchlkcmgonbcjaaTab
import Derived.Test.YtchlkcmgonbcjaaFrom
import Derived.Test.YtchlkcmgonbcjaaRising
import Derived.StillTailTactics
namespace Go.Proofs.Ytchlkcmgonbcjaa.flip
open Go.RowKit own pp nums range tab mk fromw rising samplesv
set_option linter.unusedVariables false
set_option linter.unusedSimpArgs false

theorem xor_at : ∀ p q : Fin 16, Go.bits BinOp.xor IntKind.i64 ((p.val : Nat) : Int) ((q.val : Nat) : Int) = ((p.val ^^^ q.val : Nat) : Int) := by decide +kernel
theorem or_at : ∀ p q : Fin 16, Go.bits BinOp.or IntKind.i64 ((p.val : Nat) : Int) ((q.val : Nat) : Int) = ((p.val ||| q.val : Nat) : Int) := by decide +kernel
theorem xor16 {p q : Nat} (hp : p < 16) (hq : q < 16) : Go.bits BinOp.xor IntKind.i64 (p : Int) (q : Int) = ((p ^^^ q : Nat) : Int) := xor_at ⟨p, hp⟩ ⟨q, hq⟩
theorem or16 {p q : Nat} (hp : p < 16) (hq : q < 16) : Go.bits BinOp.or IntKind.i64 (p : Int) (q : Int) = ((p ||| q : Nat) : Int) := or_at ⟨p, hp⟩ ⟨q, hq⟩
/-- The mask of the first j bits of a list. -/
def mx (set : List Int) : Nat → Nat
  | 0 => 0
  | j + 1 => mx set j ^^^ 2 ^ (set.getD j 0).toNat
theorem mx_succ (set : List Int) (j : Nat) : mx set (j + 1) = mx set j ^^^ 2 ^ (set.getD j 0).toNat := rfl
theorem low_or {x s : Nat} (h : x < 2 ^ s) : x ^^^ 2 ^ s = x ||| 2 ^ s := by
  apply Nat.eq_of_testBit_eq
  intro i
  rw [Nat.testBit_xor, Nat.testBit_or, Nat.testBit_two_pow]
  by_cases e : s = i
  · subst e
    rw [Nat.testBit_lt_two_pow h]; simp
  · simp [e]
theorem rise_lt {n : Nat} {set : List Int} (h : risesB n set = true) (j : Nat) (hj : j < set.length) : 0 ≤ set.getD j 0 ∧ set.getD j 0 < n ∧ (∀ i, i + 1 = j → set.getD i 0 < set.getD j 0) := by
  have h1 := rises_at h j hj
  simp only [riseAt, Bool.and_eq_true, Bool.or_eq_true, decide_eq_true_eq] at h1
  refine ⟨h1.1.1, by omega, fun i hi => ?_⟩
  rcases h1.2 with e | e
  · omega
  · rwa [show j - 1 = i by omega] at e
theorem mx_lt {n : Nat} {set : List Int} (h : risesB n set = true) (j : Nat) (hj : j ≤ set.length) : mx set j < 2 ^ n ∧ ∀ hl : j < set.length, mx set j < 2 ^ (set.getD j 0).toNat := by
  have key : ∀ j, j < set.length → mx set j < 2 ^ (set.getD j 0).toNat := by
    intro j
    induction j with
    | zero => intro _; exact Nat.two_pow_pos _
    | succ j ih =>
      intro hj
      have h1 := ih (by omega)
      have h2 := rise_lt h (j + 1) hj
      have h3 := rise_lt h j (by omega)
      have h4 := h2.2.2 j rfl
      have h5 : mx set (j + 1) < 2 ^ ((set.getD j 0).toNat + 1) := by
        show mx set j ^^^ 2 ^ (set.getD j 0).toNat < _
        exact Nat.xor_lt_two_pow (by rw [Nat.pow_succ]; omega) (by rw [Nat.pow_succ]; have := Nat.two_pow_pos (set.getD j 0).toNat; omega)
      exact Nat.lt_of_lt_of_le h5 (Nat.pow_le_pow_right (by omega) (by omega))
  refine ⟨?_, fun hl => key j hl⟩
  cases j with
  | zero => exact Nat.two_pow_pos _
  | succ j =>
    have h1 := key j (by omega)
    have h3 := rise_lt h j (by omega)
    show mx set j ^^^ 2 ^ (set.getD j 0).toNat < _
    have h6 : 2 ^ ((set.getD j 0).toNat + 1) ≤ 2 ^ n := Nat.pow_le_pow_right (by omega) (by omega)
    have h7 : mx set j ^^^ 2 ^ (set.getD j 0).toNat < 2 ^ ((set.getD j 0).toNat + 1) := Nat.xor_lt_two_pow (by rw [Nat.pow_succ]; omega) (by rw [Nat.pow_succ]; have := Nat.two_pow_pos (set.getD j 0).toNat; omega)
    omega
/-- The table with the bits of a list turned. -/
def fl (zs set : List Int) (k : Nat) : Int := zs.getD (k ^^^ mx set set.length) 0
def flipT (zs set : List Int) : List Int := mk (fl zs set) zs.length
theorem flip_lt {n : Nat} {set : List Int} (h : risesB n set = true) {k j : Nat} (hk : k < 2 ^ n) (hj : j ≤ set.length) : k ^^^ mx set j < 2 ^ n := Nat.xor_lt_two_pow hk (mx_lt h j hj).1
/-- A bit of the list, and its power. -/
theorem bit_pow {n : Nat} {set : List Int} (h4 : n ≤ 4) (h : risesB n set = true) (j : Nat) (hj : j < set.length) : ∃ s N : Nat, set.getD j 0 = (s : Int) ∧ s ≤ 3 ∧ (2 : Int) ^ s = (N : Int) ∧ N ≤ 8 ∧ N = 2 ^ (set.getD j 0).toNat := by
  have h1 := rise_lt h j hj
  refine ⟨(set.getD j 0).toNat, 2 ^ (set.getD j 0).toNat, by omega, by omega, by simp, ?_, rfl⟩
  have : (set.getD j 0).toNat ≤ 3 := by omega
  exact Nat.le_trans (Nat.pow_le_pow_right (by omega) this) (by decide)
theorem rise_len {n : Nat} {set : List Int} (h : risesB n set = true) : set.length ≤ n := by
  have key : ∀ j, j < set.length → (j : Int) ≤ set.getD j 0 := by
    intro j
    induction j with
    | zero => intro hj; have := rise_lt h 0 hj; omega
    | succ j ih =>
      intro hj
      have h1 := ih (by omega)
      have h2 := (rise_lt h (j + 1) hj).2.2 j rfl
      omega
  by_cases e : set.length = 0
  · omega
  · have h1 := key (set.length - 1) (by omega)
    have h2 := rise_lt h (set.length - 1) (by omega)
    omega
set_option maxRecDepth 100000 in
set_option maxHeartbeats 4000000 in
theorem spec_no (n : Int) (a : Option Addr) (zs : List Int) (c : Nat) (a' : Option Addr) (set : List Int) (c' : Nat) (w : World) (hr : ints.Reads .i64 w a zs) (hq : ints.Reads .i64 w a' set) (hm : set.length ≤ 1048576) (hk : tab.tabB n zs = false) :
    Calls Try.prog 31 #[.int .i64 n, .slice a zs.length c, .slice a' set.length c'] w (RetIB [] false w) := by
  have HT := Lib.hid (fun (wa : World) (hb : Below w.heap.size w wa) => tab.spec_tab n a zs c wa (hr.below hb) false (Lib.hid hk))
  clear hr hk hq
  go_enter Try.func31, Try.ntmps31
  go_wp2_with fail
  refine (HT.out _ (below_alloc w (.cells #[] 3))).mono ?_
  rintro e w' ⟨rfl, m, rfl⟩
  go_wp2_with fail
  go_ret2
  exact ⟨_, rfl, (own_empty _).mono (Nat.le_refl _) (by simp), ints.below_drewN (below_alloc w (.cells #[] 3)) _⟩
set_option maxRecDepth 100000 in
set_option maxHeartbeats 4000000 in
theorem spec_no2 (n : Int) (a : Option Addr) (zs : List Int) (c : Nat) (a' : Option Addr) (set : List Int) (c' : Nat) (w : World) (hr : ints.Reads .i64 w a zs) (hq : ints.Reads .i64 w a' set) (hm : set.length ≤ 1048576) (hk : tab.tabB n zs = true) (hx : risesB n set = false) :
    Calls Try.prog 31 #[.int .i64 n, .slice a zs.length c, .slice a' set.length c'] w (RetIB [] false w) := by
  have HT := Lib.hid (fun (wa : World) (hb : Below w.heap.size w wa) => tab.spec_tab n a zs c wa (hr.below hb) true (Lib.hid hk))
  have HQ := Lib.hid (fun (wa : World) (hb : Below w.heap.size w wa) => spec_rising a' set c' n wa (hq.below hb) hm false (Lib.hid hx))
  have hfit := (tab_iff _ _).1 hk
  have hn0 := hfit.1.1
  have hn4 := hfit.1.2
  clear hfit
  clear hr hk hq hx
  go_enter Try.func31, Try.ntmps31
  go_wp2_with fail
  refine (HT.out _ (below_alloc w (.cells #[] 3))).mono ?_
  rintro e w' ⟨rfl, m, rfl⟩
  go_wp2_with fail
  refine (HQ.out _ (ints.below_drewN (below_alloc w (.cells #[] 3)) m)).mono ?_
  rintro e w' ⟨rfl, m2, rfl⟩
  go_wp2_with fail
  go_ret2
  exact ⟨_, rfl, (own_empty _).mono (Nat.le_refl _) (by simp), ints.below_drewN (below_alloc w (.cells #[] 3)) _⟩
set_option maxRecDepth 100000 in
set_option maxHeartbeats 4000000 in
theorem spec_yes (n : Int) (a : Option Addr) (zs : List Int) (c : Nat) (a' : Option Addr) (set : List Int) (c' : Nat) (w : World) (hr : ints.Reads .i64 w a zs) (hq : ints.Reads .i64 w a' set) (hm : set.length ≤ 1048576) (hk : tab.tabB n zs = true) (hx : risesB n set = true) :
    Calls Try.prog 31 #[.int .i64 n, .slice a zs.length c, .slice a' set.length c'] w (RetIB (flipT zs set) true w) := by
  obtain ⟨i0, hi, hz0, hz1, hz2⟩ := info_parts mk.infoInt
  have HT := Lib.hid (fun (wa : World) (hb : Below w.heap.size w wa) => tab.spec_tab n a zs c wa (hr.below hb) true (Lib.hid hk))
  have HQ := Lib.hid (fun (wa : World) (hb : Below w.heap.size w wa) => spec_rising a' set c' n wa (hq.below hb) hm true (Lib.hid hx))
  obtain ⟨m0, rfl, h4, hpw, h16, hrg⟩ := tab_nat hk
  have HA := Lib.hid (tab_at hk)
  have HR := Lib.hid hr
  have HR2 := Lib.hid hq
  have HL := Lib.hid hpw
  have HX := Lib.hid hx
  clear hk hr hpw hrg hq hx
  go_enter Try.func31, Try.ntmps31
  go_wp2_with fail
  refine (HT.out _ (below_alloc w (.cells #[] 3))).mono ?_
  rintro e w' ⟨rfl, m, rfl⟩
  go_wp2_with fail
  refine (HQ.out _ (ints.below_drewN (below_alloc w (.cells #[] 3)) m)).mono ?_
  rintro e w' ⟨rfl, m2, rfl⟩
  go_wp2_with fail
  have HO0 := Lib.hid (show ((w.alloc (.cells #[] 3)).drewN (m + m2)).ownsRow w.heap.size 3 1 (.slice (some ⟨w.heap.size, 0, none⟩) 0 0) 0 ((mk (fl zs set) 0).map (Value.int .i64)) from (own_empty w).1)
  have HB0 := Lib.hid (ints.below_drewN (below_alloc w (.cells #[] 3)) (m + m2))
  go_loopw [8, 9] (fun v i wr => ∃ (k : Nat), k ≤ zs.length ∧ i = .int .i64 k ∧ wr.ownsRow w.heap.size 3 1 v k ((mk (fl zs set) k).map (Value.int .i64)) ∧ Below w.heap.size w wr) (fun _ i _ => zs.length - (intOf i).toNat)
  case atStart => exact ⟨0, Nat.zero_le _, rfl, HO0.out, HB0.out⟩
  case round =>
    obtain ⟨k, hk, rfl, hown, hbel⟩ := hrel
    have HV := Lib.hid hown.lt
    have HBl := Lib.hid hbel
    have hsz := hbel.size
    clear HO0 HB0
    by_cases hlt : k < zs.length
    · have HSn := Lib.hid (mk_succ (fl zs set) k)
      have HO := Lib.hid hown
      clear hown hbel
      go_wp2_with fail
      go_loopw [10, 11] (fun x i wq => ∃ (j : Nat), j ≤ set.length ∧ i = .int .i64 j ∧ x = .int .i64 ((k ^^^ mx set j : Nat) : Int) ∧ wq = wr) (fun _ i _ => set.length - (intOf i).toNat)
      case atStart => exact ⟨0, Nat.zero_le _, rfl, by unfold mx; rw [Nat.xor_zero], rfl⟩
      case round =>
        obtain ⟨j, hj, rfl, rfl, rfl⟩ := hrel
        have hfl := flip_lt HX.out (k := k) (j := j) (by have := HL.out; omega) hj
        have hp16 := (pow4 h4).2
        by_cases hjt : j < set.length
        · obtain ⟨s, N, hs, hs3, hN, hN8, hNe⟩ := bit_pow h4 HX.out j hjt
          obtain ⟨b, off, rfl, hb, hc⟩ := (HR2.out.below HBl.out).at hjt
          have HXo := Lib.hid (show k ^^^ mx set j ^^^ N = k ^^^ mx set (j + 1) by rw [hNe, mx_succ, Nat.xor_assoc])
          have hbit := xor16 (p := k ^^^ mx set j) (q := N) (by omega) (by omega)
          rw [hs] at hc
          have i1 : (0 : Int) ≤ (j : Int) := by omega
          have i2 : (j : Int) < (set.length : Int) := by omega
          clear hs hNe
          generalize k ^^^ mx set j = x at *
          go_wp2_with fail
          go_roundw
          case rel => exact ⟨j + 1, by omega, by go_num, by rw [← HXo.out], by first | rfl | trivial⟩
          case measure => simp [intOf]; omega
        · obtain rfl : j = set.length := by omega
          have HD := Lib.hid (show fl zs set k = zs.getD (k ^^^ mx set set.length) 0 from rfl)
          have hlt2 : k ^^^ mx set set.length < zs.length := by have := HL.out; omega
          obtain ⟨b, off, rfl, hb, hc⟩ := (HR.out.below HBl.out).at hlt2
          clear hfl hp16 hlt2
          have hlt2 : k ^^^ mx set set.length < zs.length := flip_lt HX.out (k := k) (j := set.length) (by have := HL.out; omega) (Nat.le_refl _) |> fun h => by have := HL.out; omega
          generalize k ^^^ mx set set.length = y at *
          have i1 : (0 : Int) ≤ (y : Int) := by omega
          have i2 : (y : Int) < (zs.length : Int) := by omega
          generalize zs.getD y 0 = x at *
          go_wp2_with (at_builtin; refine wpList_append_own _ rfl _ _ 22 rfl w.heap.size 3 i0 (.int .i64 0) 1 8 Try.underlying22 hi hz0 hz1 hz2 rfl (by decide) _ _ _ rfl (HO.out.alloc _) ⟨wr.heap.size, 0, none⟩ 1 1 [.int .i64 x] rfl rfl (cell_one_new _ _ _) (by simp [Value.oneCell']) (by unfold maxLen; omega) (by omega) (by simp; omega) ?_; intro v' w2 hown' hgrow _)
          obtain ⟨g', cap', hv'⟩ := ownsRow_succ hown'
          subst hv'
          have HO2 := Lib.hid hown'
          have HB2 := Lib.hid ((HBl.out.alloc hsz _).grown hgrow (by simp; omega) (fun g e => (HV.out g e).1))
          clear hown' hgrow
          go_wp2_with fail
          go_roundw
          case rel => exact ⟨k + 1, by omega, by go_num, by rw [HSn.out, List.map_append, HD.out]; exact HO2.out, HB2.out⟩
          case measure => simp [intOf]; omega
    · obtain rfl : k = zs.length := by omega
      have HF1 := Lib.hid (show RetIB (flipT zs set) true w (.returned (.tuple #[u8, .bool true])) wr from ⟨u8, rfl, OwnI.of (by unfold flipT; rw [mk_length]; exact hown), HBl.out⟩)
      clear hown hbel
      go_wp2_with fail
      go_ret2
      exact HF1.out
set_option maxHeartbeats 1000000 in
theorem flip_at (k M : Nat) (b : Nat) (w : World) (hc : w.cell? ⟨b, 0, none⟩ = some (.int .i64 (M : Int))) (hk : k < 16) (hM : M < 16) :
    Calls Try.prog 58 #[.int .i64 k, .pointer (some ⟨b, 0, none⟩)] w (fun e w' => e = .returned (.int .i64 ((k ^^^ M : Nat) : Int)) ∧ ∃ m, w' = w.drewN m) := by
  have hbit := xor16 hk hM
  go_enter Try.func58, Try.ntmps58
  go_wp2_with fail
  go_ret
  exact ⟨rfl, 0, rfl⟩
set_option maxRecDepth 100000 in
set_option maxHeartbeats 4000000 in
theorem impl_no (n : Int) (a : Option Addr) (zs : List Int) (c : Nat) (a' : Option Addr) (set : List Int) (c' : Nat) (w : World) (hr : ints.Reads .i64 w a zs) (hq : ints.Reads .i64 w a' set) (hm : set.length ≤ 1048576) (hk : tab.tabB n zs = false) :
    Calls Try.prog 32 #[.int .i64 n, .slice a zs.length c, .slice a' set.length c'] w (RetIB [] false w) := by
  have HT := Lib.hid (fun (wa : World) (hb : Below w.heap.size w wa) => tab.impl_tab n a zs c wa (hr.below hb) false (Lib.hid hk))
  clear hr hk hq
  go_enter Try.func32, Try.ntmps32
  go_wp2_with fail
  refine (HT.out _ (Below.refl _ _)).mono ?_
  rintro e w' ⟨rfl, m, rfl⟩
  go_wp2_with fail
  go_ret2
  exact ret_empty (ints.below_drewN (Below.refl _ _) _)
set_option maxRecDepth 100000 in
set_option maxHeartbeats 4000000 in
theorem impl_no2 (n : Int) (a : Option Addr) (zs : List Int) (c : Nat) (a' : Option Addr) (set : List Int) (c' : Nat) (w : World) (hr : ints.Reads .i64 w a zs) (hq : ints.Reads .i64 w a' set) (hm : set.length ≤ 1048576) (hk : tab.tabB n zs = true) (hx : risesB n set = false) :
    Calls Try.prog 32 #[.int .i64 n, .slice a zs.length c, .slice a' set.length c'] w (RetIB [] false w) := by
  have HT := Lib.hid (fun (wa : World) (hb : Below w.heap.size w wa) => tab.impl_tab n a zs c wa (hr.below hb) true (Lib.hid hk))
  have HQ := Lib.hid (fun (wa : World) (hb : Below w.heap.size w wa) => impl_places a' set c' n wa (hq.below hb) hm false (Lib.hid hx))
  clear hr hk hq hx
  go_enter Try.func32, Try.ntmps32
  go_wp2_with fail
  refine (HT.out _ (Below.refl _ _)).mono ?_
  rintro e w' ⟨rfl, m, rfl⟩
  go_wp2_with fail
  refine (HQ.out _ (ints.below_drewN (Below.refl _ _) m)).mono ?_
  rintro e w' ⟨rfl, rfl⟩
  go_wp2_with fail
  go_ret2
  exact ret_empty (ints.below_drewN (Below.refl _ _) _)
set_option maxRecDepth 100000 in
set_option maxHeartbeats 4000000 in
theorem impl_yes (n : Int) (a : Option Addr) (zs : List Int) (c : Nat) (a' : Option Addr) (set : List Int) (c' : Nat) (w : World) (hr : ints.Reads .i64 w a zs) (hq : ints.Reads .i64 w a' set) (hm : set.length ≤ 1048576) (hk : tab.tabB n zs = true) (hx : risesB n set = true) :
    Calls Try.prog 32 #[.int .i64 n, .slice a zs.length c, .slice a' set.length c'] w (RetIB (flipT zs set) true w) := by
  have HT := Lib.hid (fun (wa : World) (hb : Below w.heap.size w wa) => tab.impl_tab n a zs c wa (hr.below hb) true (Lib.hid hk))
  have HQ := Lib.hid (fun (wa : World) (hb : Below w.heap.size w wa) => impl_places a' set c' n wa (hq.below hb) hm true (Lib.hid hx))
  obtain ⟨m0, rfl, h4, hpw, h16, hrg⟩ := tab_nat hk
  have HR := Lib.hid hr
  have HR2 := Lib.hid hq
  have HL := Lib.hid hpw
  have HX := Lib.hid hx
  clear hk hr hpw hrg hq hx
  go_enter Try.func32, Try.ntmps32
  go_wp2_with fail
  refine (HT.out _ (Below.refl _ _)).mono ?_
  rintro e w' ⟨rfl, m, rfl⟩
  go_wp2_with fail
  refine (HQ.out _ (ints.below_drewN (Below.refl _ _) m)).mono ?_
  rintro e w' ⟨rfl, rfl⟩
  obtain ⟨wp, hwp⟩ : ∃ wp : World, wp = w.drewN m := ⟨_, rfl⟩
  have HBp := Lib.hid (show Below w.heap.size w wp by rw [hwp]; exact ints.below_drewN (Below.refl _ _) m)
  rw [← hwp]
  clear hwp
  have xf : (wp.alloc (.cells #[.int .i64 0] 3)).frozen? ⟨wp.heap.size, 0, none⟩ = false := fro_new _ _ _ rfl
  have xc : (wp.alloc (.cells #[.int .i64 0] 3)).cell? ⟨wp.heap.size, 0, none⟩ = some (.int .i64 0) := cell_new _ _ _ rfl rfl
  go_wp2_with fail
  have HBq := Lib.hid (HBp.out.alloc HBp.out.size (.cells #[.int .i64 0] 3))
  have hsq : wp.heap.size < (wp.alloc (.cells #[.int .i64 0] 3)).heap.size := by simp
  have hwp := HBp.out.size
  generalize wp.alloc (.cells #[.int .i64 0] 3) = wq at *
  go_loopw [24] (fun i wr => ∃ j : Nat, j ≤ set.length ∧ i = .int .i64 j ∧ wr.cell? ⟨wp.heap.size, 0, none⟩ = some (.int .i64 (mx set j : Nat)) ∧ wr.frozen? ⟨wp.heap.size, 0, none⟩ = false ∧ wp.heap.size < wr.heap.size ∧ Below w.heap.size w wr) (fun i _ => set.length - (intOf i).toNat)
  case atStart => exact ⟨0, Nat.zero_le _, rfl, xc, xf, hsq, HBq.out⟩
  case round =>
    obtain ⟨j, hj, rfl, hcell, hfro, hsr, hbel⟩ := hrel
    clear xc xf hsq
    have HBl := Lib.hid hbel
    clear hbel
    have hml := mx_lt HX.out j hj
    have hp16 := (pow4 h4).2
    by_cases hjt : j < set.length
    · obtain ⟨s, N, hs, hs3, hN, hN8, hNe⟩ := bit_pow h4 HX.out j hjt
      obtain ⟨b, off, rfl, hb, hc⟩ := (HR2.out.below HBl.out).at hjt
      have HXo := Lib.hid (show mx set j ||| N = mx set (j + 1) by rw [hNe, ← low_or (hml.2 hjt)]; rfl)
      have hbit := or16 (p := mx set j) (q := N) (by omega) (by omega)
      rw [hs] at hc
      have hm16 : mx set j < 16 := by omega
      have i1 : (0 : Int) ≤ (j : Int) := by omega
      have i2 : (j : Int) < (set.length : Int) := by omega
      clear hs hNe hml hp16
      generalize mx set j = x at *
      have HS2 := Lib.hid (show ∀ u : World, u = (wr.setCell ⟨wp.heap.size, 0, none⟩ (.int .i64 (x ||| N : Nat))) → u.cell? ⟨wp.heap.size, 0, none⟩ = some (.int .i64 (mx set (j + 1) : Nat)) ∧ u.frozen? ⟨wp.heap.size, 0, none⟩ = false ∧ wp.heap.size < u.heap.size ∧ Below w.heap.size w u from fun u hu => by subst hu; exact ⟨by rw [World.cell?_setCell_same' _ _ _ (by rw [hcell]; rfl), HXo.out], by rw [World.frozen?_setCell]; exact hfro, by rw [size_set]; exact hsr, HBl.out.setCell hwp _⟩)
      replace HS2 := Lib.hid (HS2.out _ rfl)
      go_wp2_with fail
      go_still_tail 4, (by kernel_rfl)
      go_wp2_with fail
      go_roundw
      case rel => exact ⟨j + 1, by omega, by go_num, HS2.out.1, HS2.out.2.1, HS2.out.2.2.1, HS2.out.2.2.2.drew⟩
      case measure => simp [intOf]; omega
    · obtain rfl : j = set.length := by omega
      have HFC := Lib.hid (fun (k : Nat) (wf : World) (hk : k < 2 ^ m0) (hb : Below wr.heap.size wr wf) => flip_at k (mx set set.length) _ wf (cell_below hb hcell hsr) (by omega) (by omega))
      have HC := Lib.hid (from_FlipBits m0 h4 a zs c (.pointer (some ⟨wp.heap.size, 0, none⟩)) (fun k => k ^^^ mx set set.length) wr (HR.out.below HBl.out) (Lib.hid (fun k hk => by have := flip_lt HX.out hk (Nat.le_refl set.length); have := HL.out; omega)) (by omega) (Lib.hid (fun k wf hk hb => HFC.out k wf hk hb)))
      rw [← HL.out] at HC
      have HD := Lib.hid (show mk (fun k => zs.getD (k ^^^ mx set set.length) 0) zs.length = flipT zs set from rfl)
      have hlz := HBl.out.size
      clear hml hcell hfro HFC
      go_wp2_with fail
      refine HC.out.mono ?_
      rintro e w3 ⟨v, rfl, hov, hb3⟩
      rw [HD.out] at hov
      have HF := Lib.hid (show RetIB (flipT zs set) true w (.returned (.tuple #[v, .bool true])) w3 from ⟨v, rfl, hov.mono hlz (Nat.le_refl _), HBl.out.trans (hb3.mono hlz)⟩)
      clear hov hb3
      go_wp2_with fail
      go_ret2
      exact HF.out
end Go.Proofs.Ytchlkcmgonbcjaa.flip
