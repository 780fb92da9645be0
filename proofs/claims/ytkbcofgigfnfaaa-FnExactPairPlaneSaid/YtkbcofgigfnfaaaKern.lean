/- Kernels of two points. -/
import Derived.Test.YtkbcofgigfnfaaaSquares
import Derived.Test.YtkbcofgigfnfaaaDots
namespace Go.Proofs.Ytkbcofgigfnfaaa.kern
open Go.RowKit own pp nums squares dots
set_option linter.unusedVariables false
set_option linter.unusedSimpArgs false

/-- The powers of a number. -/
def pw (b : Int) : Nat → Int
  | 0 => 1
  | k + 1 => pw b k * b
/-- The kernel of two points. -/
def kern (xs ys : List Int) (e : Int) : Int := pw (dot xs ys + 1) e.toNat
def degB (e : Int) : Bool := decide (1 ≤ e) && decide (e ≤ 3)
theorem degB_iff (e : Int) : degB e = true ↔ 1 ≤ e ∧ e ≤ 3 := by simp [degB]
theorem dot9_bd {xs ys : List Int} (hx : numsB 9 xs = true) (hy : numsB 9 ys = true) (hl : xs.length = ys.length) (k : Nat) (hk : k ≤ xs.length) : -(81 * (k : Int)) ≤ dotTo xs ys k ∧ dotTo xs ys k ≤ 81 * (k : Int) := by
  induction k with
  | zero => simp [dotTo_zero]
  | succ k ih =>
    have h1 := ih (by omega)
    have h2 := numsB_at hx k (by omega)
    have h3 := numsB_at hy k (by omega)
    have h4 := mul_bd h2.1 h2.2 h3.1 h3.2
    rw [dotTo_succ]
    omega
theorem dot_bd {xs ys : List Int} (hx : pointB xs = true) (hy : pointB ys = true) (hl : xs.length = ys.length) : -324 ≤ dot xs ys ∧ dot xs ys ≤ 324 := by
  have h1 := (pointB_iff _).1 hx
  have h2 := (pointB_iff _).1 hy
  have h3 := dot9_bd h1.2.2 h2.2.2 hl xs.length (Nat.le_refl _)
  unfold dot
  omega
theorem dot_small {xs ys : List Int} (hx : pointB xs = true) (hy : pointB ys = true) (hl : xs.length = ys.length) : Small xs ys :=
  small_of ((pointB_iff _).1 hx).2.2 ((pointB_iff _).1 hy).2.2 (by decide) (by omega)
theorem dot_comm (xs ys : List Int) (hl : xs.length = ys.length) : dot xs ys = dot ys xs := by
  have h : ∀ k, dotTo xs ys k = dotTo ys xs k := by
    intro k
    induction k with
    | zero => rfl
    | succ k ih => rw [dotTo_succ, dotTo_succ, ih, Int.mul_comm]
  unfold dot
  rw [h, hl]
theorem pw_bd {b : Int} (h1 : -325 ≤ b) (h2 : b ≤ 325) (k : Nat) (hk : k ≤ 3) : -34328125 ≤ pw b k ∧ pw b k ≤ 34328125 := by
  have e1 : pw b 1 = b := by simp [pw]
  have m2 := mul_bd h1 h2 h1 h2
  have m3 := mul_bd m2.1 m2.2 h1 h2
  have e2 : pw b 2 = b * b := by simp [pw]
  have e3 : pw b 3 = b * b * b := by simp [pw]
  have hk' : k = 0 ∨ k = 1 ∨ k = 2 ∨ k = 3 := by omega
  rcases hk' with rfl | rfl | rfl | rfl
  · simp [pw]
  · omega
  · omega
  · omega
theorem pw_bd2 {b : Int} (h1 : -325 ≤ b) (h2 : b ≤ 325) (k : Nat) (hk : k ≤ 2) : -105625 ≤ pw b k ∧ pw b k ≤ 105625 := by
  have e1 : pw b 1 = b := by simp [pw]
  have m2 := mul_bd h1 h2 h1 h2
  have e2 : pw b 2 = b * b := by simp [pw]
  have hk' : k = 0 ∨ k = 1 ∨ k = 2 := by omega
  rcases hk' with rfl | rfl | rfl
  · simp [pw]
  · omega
  · omega
theorem kern_bd {xs ys : List Int} {e : Int} (hx : pointB xs = true) (hy : pointB ys = true) (hl : xs.length = ys.length) (he : degB e = true) : -34328125 ≤ kern xs ys e ∧ kern xs ys e ≤ 34328125 := by
  have h := dot_bd hx hy hl
  have h2 := (degB_iff e).1 he
  exact pw_bd (by omega) (by omega) e.toNat (by omega)
theorem kern_comm (xs ys : List Int) (e : Int) (hl : xs.length = ys.length) : kern xs ys e = kern ys xs e := by
  unfold kern; rw [dot_comm xs ys hl]
set_option maxHeartbeats 1000000 in
theorem spec_deg (e : Int) (w : World) (ok : Bool) (h : Hid (degB e = ok)) :
    Calls Try.prog 92 #[.int .i64 e] w (Says ok w) := by
  have HI := Lib.hid (show (decide (1 ≤ e) && decide (e ≤ 3)) = ok from h.out)
  clear h
  go_enter Try.func92, Try.ntmps92
  go_wp2_with fail
  refine (in_any e 1 3 w ok HI).mono ?_
  rintro e' w' ⟨rfl, rfl⟩
  go_wp2_with fail
  go_ret
  exact ⟨rfl, rfl⟩
set_option maxHeartbeats 1000000 in
theorem impl_deg (e : Int) (w : World) (ok : Bool) (h : Hid (degB e = ok)) :
    Calls Try.prog 94 #[.int .i64 e] w (Says ok w) := by
  cases h1 : decide (1 ≤ e)
  · have e9 : ok = false := by rw [← h.out]; unfold degB; rw [h1, Bool.false_and]
    subst e9
    clear h
    go_enter Try.func94, Try.ntmps94
    go_wp2_with fail
    go_ret
    exact ⟨rfl, rfl⟩
  · have h2 : decide (e ≤ 3) = ok := by rw [← h.out]; unfold degB; rw [h1, Bool.true_and]
    clear h
    subst h2
    go_enter Try.func94, Try.ntmps94
    go_wp2_with fail
    go_ret
    exact ⟨rfl, rfl⟩
set_option maxRecDepth 100000 in
set_option maxHeartbeats 1600000 in
theorem spec_kernel (a : Option Addr) (xs : List Int) (c : Nat) (a' : Option Addr) (ys : List Int) (c' : Nat) (e : Int) (w : World) (hr : ints.Reads .i64 w a xs) (hq : ints.Reads .i64 w a' ys) (hx : pointB xs = true) (hy : pointB ys = true) (hl : xs.length = ys.length) (he : degB e = true) :
    Calls Try.prog 93 #[.slice a xs.length c, .slice a' ys.length c', .int .i64 e] w (RetN (kern xs ys e) w) := by
  have hS := dot_small hx hy hl
  have h4 := ((pointB_iff _).1 hx).2.1
  have hdb := dot_bd hx hy hl
  have h13 := (degB_iff e).1 he
  obtain ⟨n, rfl⟩ : ∃ n : Nat, e = (n : Int) := ⟨e.toNat, by omega⟩
  have HK := Lib.hid (show kern xs ys (n : Int) = pw (dot xs ys + 1) n by unfold kern; rw [Int.toNat_natCast])
  have HT := Lib.hid (fun (wa : World) (hb : Below w.heap.size w wa) => spec_dot a xs c a' ys c' wa (hr.below hb) (hq.below hb) (by omega) (by omega) (by omega) hS)
  clear hr hq hS hx hy hl he
  generalize kern xs ys (n : Int) = res at *
  generalize dot xs ys = d at *
  have hB1 : -325 ≤ d + 1 := by omega
  have hB2 : d + 1 ≤ 325 := by omega
  have e0 : IntKind.i64.wrap (d + 1) = d + 1 := IntWalk.i64_in _ (by omega)
  go_enter Try.func93, Try.ntmps93
  go_wp2_with fail
  refine (HT.out _ (Below.refl _ _)).mono ?_
  rintro e' w' ⟨rfl, m, rfl⟩
  go_wp2_with fail
  have HB := Lib.hid (ints.below_drewN (Below.refl w.heap.size w) m)
  generalize hw1 : w.drewN m = w1 at *
  clear hw1
  go_loopw [8, 9] (fun s i wr => ∃ k : Nat, k ≤ n ∧ i = .int .i64 k ∧ s = .int .i64 (pw (d + 1) k) ∧ wr = w1) (fun _ i _ => n - (intOf i).toNat)
  case atStart => exact ⟨0, Nat.zero_le _, rfl, rfl, rfl⟩
  case round =>
    obtain ⟨k, hk, rfl, rfl, rfl⟩ := hrel
    by_cases hlt : k < n
    · skip
      have hp2 := pw_bd2 hB1 hB2 k (by omega)
      have hm9 := mul_bd hp2.1 hp2.2 hB1 hB2
      have HP := Lib.hid (show pw (d + 1) (k + 1) = pw (d + 1) k * (d + 1) from rfl)
      generalize pw (d + 1) k = p at *
      have e2 : IntKind.i64.wrap (p * (d + 1)) = p * (d + 1) := IntWalk.i64_in _ (by omega)
      have i1 : (0 : Int) ≤ (k : Int) := by omega
      have i2 : (k : Int) < (n : Int) := by omega
      go_wp2_with fail
      go_roundw
      case rel => exact ⟨k + 1, by omega, by go_num, by rw [HP.out], trivial⟩
      case measure => simp [intOf]; omega
    · obtain rfl : k = n := by omega
      have HF := Lib.hid (show RetN res w (.returned (.int .i64 (pw (d + 1) k))) wr from ⟨by rw [HK.out], HB.out⟩)
      go_wp2_with fail
      go_ret
      exact HF.out
set_option maxRecDepth 100000 in
set_option maxHeartbeats 1600000 in
theorem impl_kernel (a : Option Addr) (xs : List Int) (c : Nat) (a' : Option Addr) (ys : List Int) (c' : Nat) (e : Int) (w : World) (hr : ints.Reads .i64 w a xs) (hq : ints.Reads .i64 w a' ys) (hx : pointB xs = true) (hy : pointB ys = true) (hl : xs.length = ys.length) (he : degB e = true) :
    Calls Try.prog 95 #[.slice a xs.length c, .slice a' ys.length c', .int .i64 e] w (RetN (kern xs ys e) w) := by
  have hS := dot_small hx hy hl
  have h4 := ((pointB_iff _).1 hx).2.1
  have hdb := dot_bd hx hy hl
  have h13 := (degB_iff e).1 he
  obtain ⟨n, rfl⟩ : ∃ n : Nat, e = (n : Int) := ⟨e.toNat, by omega⟩
  have HK := Lib.hid (show kern xs ys (n : Int) = pw (dot xs ys + 1) n by unfold kern; rw [Int.toNat_natCast])
  have HT := Lib.hid (fun (wa : World) (hb : Below w.heap.size w wa) => impl_dot a xs c a' ys c' wa (hr.below hb) (hq.below hb) (by omega) (by omega) (by omega) hS)
  clear hr hq hS hx hy hl he
  generalize kern xs ys (n : Int) = res at *
  generalize dot xs ys = d at *
  have hB1 : -325 ≤ d + 1 := by omega
  have hB2 : d + 1 ≤ 325 := by omega
  have e0 : IntKind.i64.wrap (d + 1) = d + 1 := IntWalk.i64_in _ (by omega)
  go_enter Try.func95, Try.ntmps95
  go_wp2_with fail
  go_loopw [7, 9] (fun s i wr => ∃ k : Nat, k ≤ n ∧ i = .int .i64 k ∧ s = .int .i64 (pw (d + 1) k) ∧ Below w.heap.size w wr) (fun _ i _ => n - (intOf i).toNat)
  case atStart => exact ⟨0, Nat.zero_le _, rfl, rfl, Below.refl _ _⟩
  case round =>
    obtain ⟨k, hk, rfl, rfl, hbel⟩ := hrel
    by_cases hlt : k < n
    · have HC := Lib.hid (HT.out wr hbel)
      have HB := Lib.hid hbel
      clear hbel
      have hp2 := pw_bd2 hB1 hB2 k (by omega)
      have hm9 := mul_bd hp2.1 hp2.2 hB1 hB2
      have HP := Lib.hid (show pw (d + 1) (k + 1) = pw (d + 1) k * (d + 1) from rfl)
      generalize pw (d + 1) k = p at *
      have e2 : IntKind.i64.wrap (p * (d + 1)) = p * (d + 1) := IntWalk.i64_in _ (by omega)
      have i1 : (0 : Int) ≤ (k : Int) := by omega
      have i2 : (k : Int) < (n : Int) := by omega
      go_wp2_with fail
      refine HC.out.mono ?_
      rintro e' w' ⟨rfl, m, rfl⟩
      go_wp2_with fail
      go_roundw
      case rel => exact ⟨k + 1, by omega, by go_num, by rw [HP.out], ints.below_drewN HB.out _⟩
      case measure => simp [intOf]; omega
    · obtain rfl : k = n := by omega
      have HF := Lib.hid (show RetN res w (.returned (.int .i64 (pw (d + 1) k))) wr from ⟨by rw [HK.out], hbel⟩)
      clear hbel
      go_wp2_with fail
      go_ret
      exact HF.out
def kofB (xs ys : List Int) (e : Int) : Bool := pairB xs ys && degB e
theorem kofB_iff (xs ys : List Int) (e : Int) : kofB xs ys e = true ↔ pointB xs = true ∧ pointB ys = true ∧ xs.length = ys.length ∧ degB e = true := by
  unfold kofB
  rw [Bool.and_eq_true, pairB_iff]
  simp [and_assoc]
set_option maxHeartbeats 1000000 in
theorem spec_kof_no (a : Option Addr) (xs : List Int) (c : Nat) (a' : Option Addr) (ys : List Int) (c' : Nat) (e : Int) (w : World) (hr : ints.Reads .i64 w a xs) (hq : ints.Reads .i64 w a' ys) (hn : xs.length ≤ 1048576) (hm : ys.length ≤ 1048576) (h : kofB xs ys e = false) :
    Calls Try.prog 38 #[.slice a xs.length c, .slice a' ys.length c', .int .i64 e] w (RetNB 0 false w) := by
  cases hp : pointB xs
  · have HP := Lib.hid hp
    clear h hp
    go_enter Try.func38, Try.ntmps38
    go_wp2_with fail
    refine (spec_point a xs c _ hr hn false HP).mono ?_
    rintro e' w' ⟨rfl, rfl⟩
    go_wp2_with fail
    go_ret2
    exact ⟨rfl, Below.refl _ _⟩
  have HP := Lib.hid hp
  cases hq' : pointB ys
  · have HQ := Lib.hid hq'
    clear h hp hq'
    go_enter Try.func38, Try.ntmps38
    go_wp2_with fail
    refine (spec_point a xs c _ hr hn true HP).mono ?_
    rintro e' w' ⟨rfl, rfl⟩
    go_wp2_with fail
    refine (spec_point a' ys c' _ hq hm false HQ).mono ?_
    rintro e' w' ⟨rfl, rfl⟩
    go_wp2_with fail
    go_ret2
    exact ⟨rfl, Below.refl _ _⟩
  have HQ := Lib.hid hq'
  by_cases hl : xs.length = ys.length
  · have g1 : ((xs.length : Int) != (ys.length : Int)) = false := by simp [hl]
    have HD := Lib.hid (show degB e = false by
      cases hd : degB e
      · rfl
      · have := (kofB_iff xs ys e).2 ⟨hp, hq', hl, hd⟩
        rw [h] at this; cases this)
    clear h hp hq' hl
    go_enter Try.func38, Try.ntmps38
    go_wp2_with fail
    refine (spec_point a xs c _ hr hn true HP).mono ?_
    rintro e' w' ⟨rfl, rfl⟩
    go_wp2_with fail
    refine (spec_point a' ys c' _ hq hm true HQ).mono ?_
    rintro e' w' ⟨rfl, rfl⟩
    go_wp2_with fail
    refine (spec_deg e _ false HD).mono ?_
    rintro e' w' ⟨rfl, rfl⟩
    go_wp2_with fail
    go_ret2
    exact ⟨rfl, Below.refl _ _⟩
  · have g1 : ((xs.length : Int) != (ys.length : Int)) = true := by simp; omega
    clear h hp hq' hl
    go_enter Try.func38, Try.ntmps38
    go_wp2_with fail
    refine (spec_point a xs c _ hr hn true HP).mono ?_
    rintro e' w' ⟨rfl, rfl⟩
    go_wp2_with fail
    refine (spec_point a' ys c' _ hq hm true HQ).mono ?_
    rintro e' w' ⟨rfl, rfl⟩
    go_wp2_with fail
    go_ret2
    exact ⟨rfl, Below.refl _ _⟩
set_option maxHeartbeats 1000000 in
theorem spec_kof_yes (a : Option Addr) (xs : List Int) (c : Nat) (a' : Option Addr) (ys : List Int) (c' : Nat) (e : Int) (w : World) (hr : ints.Reads .i64 w a xs) (hq : ints.Reads .i64 w a' ys) (hn : xs.length ≤ 1048576) (hm : ys.length ≤ 1048576) (h : kofB xs ys e = true) :
    Calls Try.prog 38 #[.slice a xs.length c, .slice a' ys.length c', .int .i64 e] w (RetNB (kern xs ys e) true w) := by
  obtain ⟨hp, hq', hl, hd⟩ := (kofB_iff _ _ _).1 h
  have g1 : ((xs.length : Int) != (ys.length : Int)) = false := by simp [hl]
  have HP := Lib.hid hp
  have HQ := Lib.hid hq'
  have HD := Lib.hid hd
  have HK := Lib.hid (spec_kernel a xs c a' ys c' e w hr hq hp hq' hl hd)
  clear h hp hq' hd hl
  go_enter Try.func38, Try.ntmps38
  go_wp2_with fail
  refine (spec_point a xs c _ hr hn true HP).mono ?_
  rintro e' w' ⟨rfl, rfl⟩
  go_wp2_with fail
  refine (spec_point a' ys c' _ hq hm true HQ).mono ?_
  rintro e' w' ⟨rfl, rfl⟩
  go_wp2_with fail
  refine (spec_deg e _ true HD).mono ?_
  rintro e' w' ⟨rfl, rfl⟩
  go_wp2_with fail
  refine HK.out.mono ?_
  rintro e' w' ⟨rfl, hb⟩
  have HB := Lib.hid hb
  clear hb
  go_wp2_with fail
  go_ret2
  exact ⟨rfl, HB.out⟩
set_option maxHeartbeats 1000000 in
theorem impl_kof_no (a : Option Addr) (xs : List Int) (c : Nat) (a' : Option Addr) (ys : List Int) (c' : Nat) (e : Int) (w : World) (hr : ints.Reads .i64 w a xs) (hq : ints.Reads .i64 w a' ys) (hn : xs.length ≤ 1048576) (hm : ys.length ≤ 1048576) (h : kofB xs ys e = false) :
    Calls Try.prog 39 #[.slice a xs.length c, .slice a' ys.length c', .int .i64 e] w (RetNB 0 false w) := by
  cases hp : pairB xs ys
  · have HP := Lib.hid hp
    clear h hp
    go_enter Try.func39, Try.ntmps39
    go_wp2_with fail
    refine (impl_no a xs c a' ys c' _ hr hq hn hm HP).mono ?_
    rintro e' w' ⟨rfl, hb⟩
    have HB := Lib.hid hb
    clear hb
    go_wp2_with fail
    go_ret2
    exact ⟨rfl, HB.out⟩
  · have HP := Lib.hid hp
    have HD := Lib.hid (show degB e = false by rw [← h]; unfold kofB; rw [hp, Bool.true_and])
    clear h hp
    go_enter Try.func39, Try.ntmps39
    go_wp2_with fail
    refine (impl_yes a xs c a' ys c' _ hr hq hn hm HP).mono ?_
    rintro e' w' ⟨rfl, hb⟩
    have HB := Lib.hid hb
    clear hb
    go_wp2_with fail
    refine (impl_deg e _ false HD).mono ?_
    rintro e' w' ⟨rfl, rfl⟩
    go_wp2_with fail
    go_ret2
    exact ⟨rfl, HB.out⟩
set_option maxHeartbeats 1000000 in
theorem impl_kof_yes (a : Option Addr) (xs : List Int) (c : Nat) (a' : Option Addr) (ys : List Int) (c' : Nat) (e : Int) (w : World) (hr : ints.Reads .i64 w a xs) (hq : ints.Reads .i64 w a' ys) (hn : xs.length ≤ 1048576) (hm : ys.length ≤ 1048576) (h : kofB xs ys e = true) :
    Calls Try.prog 39 #[.slice a xs.length c, .slice a' ys.length c', .int .i64 e] w (RetNB (kern xs ys e) true w) := by
  obtain ⟨hp, hq', hl, hd⟩ := (kofB_iff _ _ _).1 h
  have HP := Lib.hid ((pairB_iff _ _).2 ⟨hp, hq', hl⟩)
  have HD := Lib.hid hd
  have HK := Lib.hid (fun (wa : World) (hb : Below w.heap.size w wa) => impl_kernel a xs c a' ys c' e wa (hr.below hb) (hq.below hb) hp hq' hl hd)
  clear h hp hq' hd hl
  go_enter Try.func39, Try.ntmps39
  go_wp2_with fail
  refine (impl_yes a xs c a' ys c' _ hr hq hn hm HP).mono ?_
  rintro e' w' ⟨rfl, hb⟩
  have HB := Lib.hid hb
  clear hb
  go_wp2_with fail
  refine (impl_deg e _ true HD).mono ?_
  rintro e' w' ⟨rfl, rfl⟩
  go_wp2_with fail
  refine (HK.out _ HB.out).mono ?_
  rintro e' w9 ⟨rfl, hb⟩
  have HB2 := Lib.hid (HB.out.trans (hb.mono HB.out.size))
  clear hb
  go_wp2_with fail
  go_ret2
  exact ⟨rfl, HB2.out⟩
end Go.Proofs.Ytkbcofgigfnfaaa.kern
