/- The walks of the model's and the program's PartingBound. -/
import Derived.Test.YtncidajjeccbkaaMost
import Derived.Test.YtncidajjeccbkaaNums
namespace Go.Proofs.Ytncidajjeccbkaa.partb
open Go.RowKit own pp nums most
set_option linter.unusedVariables false
set_option linter.unusedSimpArgs false

/-- How many ways there are to choose k of n - 1 things, and the sum for those below k. -/
def wyN (n : Nat) : Nat → Nat
  | 0 => 1
  | k + 1 => wyN n k * (n - 1 - k) / (k + 1)
def smN (n : Nat) : Nat → Nat
  | 0 => 0
  | k + 1 => smN n k + wyN n k
theorem bd : ∀ n, n < 10 → ∀ k, k < 11 → wyN n k ≤ 1000 ∧ smN n k ≤ 1000 := by decide
theorem next : ∀ n, n < 10 → 1 ≤ n → ∀ k, k < 10 → Int.tdiv ((wyN n k : Int) * ((n : Int) - 1 - k)) ((k : Int) + 1) = (wyN n (k + 1) : Int) := by decide
theorem nextm : ∀ n, n < 9 → ∀ k, k < 5 → Int.tdiv ((wyN n k : Int) * (max ((n : Int) - 1 - k) 0)) ((k : Int) + 1) = (wyN n (k + 1) : Int) := by decide
/-- What the bound asks for, and the bound. -/
def pbB (n d : Int) : Bool := (decide (0 ≤ n) && decide (n ≤ 8)) && (decide (1 ≤ d) && decide (d ≤ 4))
theorem pbB_iff (n d : Int) : pbB n d = true ↔ (0 ≤ n ∧ n ≤ 8) ∧ 1 ≤ d ∧ d ≤ 4 := by simp [pbB, and_assoc]
def pb (n d : Int) : Int := if n = 0 then 1 else 2 * (smN n.toNat (d.toNat + 1) : Int)
theorem mul_nn {x y A B : Int} (h0 : 0 ≤ x) (h1 : x ≤ A) (h3 : -B ≤ y) (h4 : y ≤ B) : -(A * B) ≤ x * y ∧ x * y ≤ A * B := mul_bd (by omega) h1 h3 h4

set_option maxHeartbeats 1000000 in
theorem spec_no (n d : Int) (w : World) (h : pbB n d = false) :
    Calls Try.prog 46 #[.int .i64 n, .int .i64 d] w (RetNB 0 false w) := by
  cases h1 : (decide (0 ≤ n) && decide (n ≤ 8))
  · have H1 := Lib.hid h1
    clear h h1
    go_enter Try.func46, Try.ntmps46
    go_wp2_with fail
    refine (in_any _ _ _ _ false H1).mono ?_
    rintro e w' ⟨rfl, rfl⟩
    go_wp2_with fail
    go_ret2
    exact ⟨rfl, Below.refl _ _⟩
  · have H2 : Hid ((decide (1 ≤ d) && decide (d ≤ 4)) = false) := Lib.hid (by unfold pbB at h; rw [h1] at h; simpa using h)
    have H1 := Lib.hid h1
    clear h h1
    go_enter Try.func46, Try.ntmps46
    go_wp2_with fail
    refine (in_any _ _ _ _ true H1).mono ?_
    rintro e w' ⟨rfl, rfl⟩
    go_wp2_with fail
    refine (in_any _ _ _ _ false H2).mono ?_
    rintro e w' ⟨rfl, rfl⟩
    go_wp2_with fail
    go_ret2
    exact ⟨rfl, Below.refl _ _⟩
set_option maxHeartbeats 1000000 in
theorem spec_zero (d : Int) (w : World) (h : 1 ≤ d ∧ d ≤ 4) :
    Calls Try.prog 46 #[.int .i64 0, .int .i64 d] w (RetNB 1 true w) := by
  have H1 : Hid ((decide ((0 : Int) ≤ 0) && decide ((0 : Int) ≤ 8)) = true) := Lib.hid (by decide)
  have H2 : Hid ((decide (1 ≤ d) && decide (d ≤ 4)) = true) := Lib.hid (by simp [h.1, h.2])
  clear h
  go_enter Try.func46, Try.ntmps46
  go_wp2_with fail
  refine (in_any _ _ _ _ true H1).mono ?_
  rintro e w' ⟨rfl, rfl⟩
  go_wp2_with fail
  refine (in_any _ _ _ _ true H2).mono ?_
  rintro e w' ⟨rfl, rfl⟩
  go_wp2_with fail
  go_ret2
  exact ⟨rfl, Below.refl _ _⟩
set_option maxHeartbeats 2000000 in
theorem spec_yes (n d : Nat) (w : World) (h1 : 1 ≤ n) (h8 : n ≤ 8) (d1 : 1 ≤ d) (d4 : d ≤ 4) :
    Calls Try.prog 46 #[.int .i64 n, .int .i64 d] w (RetNB (2 * (smN n (d + 1) : Int)) true w) := by
  have H1 : Hid ((decide ((0 : Int) ≤ n) && decide ((n : Int) ≤ 8)) = true) := Lib.hid (by simp; omega)
  have H2 : Hid ((decide ((1 : Int) ≤ d) && decide ((d : Int) ≤ 4)) = true) := Lib.hid (by simp; omega)
  have g0 : ((n : Int) == 0) = false := by rw [beq_eq_false_iff_ne]; omega
  go_enter Try.func46, Try.ntmps46
  go_wp2_with fail
  refine (in_any _ _ _ _ true H1).mono ?_
  rintro e w' ⟨rfl, rfl⟩
  go_wp2_with fail
  refine (in_any _ _ _ _ true H2).mono ?_
  rintro e w' ⟨rfl, rfl⟩
  go_wp2_with fail
  go_loopw [6, 7, 8] (fun s v i wr => ∃ k : Nat, k ≤ d + 1 ∧ i = .int .i64 k ∧ s = .int .i64 (smN n k : Int) ∧ v = .int .i64 (wyN n k : Int) ∧ ∃ m, wr = w.drewN m) (fun _ _ i _ => d + 1 - (intOf i).toNat)
  case atStart => exact ⟨0, by omega, rfl, rfl, rfl, 0, rfl⟩
  case round =>
    obtain ⟨k, hk, rfl, rfl, rfl, m, rfl⟩ := hrel
    by_cases hlt : k < d + 1
    · have HD := Lib.hid g0
      clear g0
      obtain ⟨a1, a2⟩ := bd n (by omega) k (by omega)
      obtain ⟨c1, c2⟩ := bd n (by omega) (k + 1) (by omega)
      have HS := Lib.hid (show (smN n (k + 1) : Int) = smN n k + wyN n k from by simp [smN])
      have HW := Lib.hid (nextm n (by omega) k (by omega))
      obtain ⟨m1, m2⟩ := mul_nn (A := 1000) (B := 100) (x := (wyN n k : Int)) (y := max ((n : Int) - 1 - k) 0) (by omega) (by omega) (by omega) (by omega)
      have hw0 : (0 : Int) ≤ (wyN n k : Int) := by omega
      have hs0 : (0 : Int) ≤ (smN n k : Int) := by omega
      have hw1 : (wyN n k : Int) ≤ 1000 := by omega
      have hs1 : (smN n k : Int) ≤ 1000 := by omega
      have hd0 : ((k : Int) + 1 == 0) = false := by rw [beq_eq_false_iff_ne]; omega
      have i2 : (k : Int) < (d : Int) + 1 := by omega
      have i3 : (k : Int) ≤ (d : Int) := by omega
      generalize (smN n k : Int) = s at *
      generalize (wyN n k : Int) = v at *
      have e1 : IntKind.i64.wrap (s + v) = s + v := IntWalk.i64_in _ (by omega)
      have e2 : IntKind.i64.wrap ((n : Int) - 1) = (n : Int) - 1 := IntWalk.i64_in _ (by omega)
      have e3 : IntKind.i64.wrap ((n : Int) - 1 - k) = (n : Int) - 1 - k := IntWalk.i64_in _ (by omega)
      have e4 : IntKind.i64.wrap (v * (max ((n : Int) - 1 - k) 0)) = v * (max ((n : Int) - 1 - k) 0) := IntWalk.i64_in _ (by omega)
      have e5 : IntKind.i64.wrap ((k : Int) + 1) = (k : Int) + 1 := IntWalk.i64_in _ (by omega)
      go_wp2_with fail
      refine (most_any _ _ _).mono ?_
      rintro e w' ⟨rfl, rfl⟩
      go_wp2_with fail
      go_roundw
      case rel => exact ⟨k + 1, by omega, by go_num, by rw [HS.out], by rw [← HW.out], _, rfl⟩
      case measure => simp [intOf]; omega
    · obtain rfl : k = d + 1 := by omega
      obtain ⟨a1, a2⟩ := bd n (by omega) (d + 1) (by omega)
      have i3 : ¬ ((d : Int) + 1 ≤ (d : Int)) := by omega
      have e0 : (((d + 1 : Nat) : Int)) = (d : Int) + 1 := by omega
      generalize hs : (smN n (d + 1) : Int) = s at *
      have e1 : IntKind.i64.wrap (2 * s) = 2 * s := IntWalk.i64_in _ (by omega)
      go_wp2_with fail
      go_ret2
      exact ⟨rfl, ints.below_drewN (Below.refl _ _) _⟩
set_option maxHeartbeats 2000000 in
theorem impl_count (n d : Nat) (w : World) (h8 : n ≤ 8) (d8 : d ≤ 8) :
    Calls Try.prog 69 #[.int .i64 n, .int .i64 d] w (fun e w' => e = .returned (.int .i64 (smN (n + 1) (d + 1) : Int)) ∧ ∃ m, w' = w.drewN m) := by
  have e0 : IntKind.i64.wrap ((d : Int) + 1) = (d : Int) + 1 := IntWalk.i64_in _ (by omega)
  go_enter Try.func69, Try.ntmps69
  go_wp2_with fail
  go_loopw [5, 6, 10] (fun s v i wr => ∃ k : Nat, k ≤ d + 1 ∧ i = .int .i64 k ∧ s = .int .i64 (smN (n + 1) k : Int) ∧ v = .int .i64 (wyN (n + 1) k : Int) ∧ ∃ m, wr = w.drewN m) (fun _ _ i _ => d + 1 - (intOf i).toNat)
  case atStart => exact ⟨0, by omega, rfl, rfl, rfl, 0, rfl⟩
  case round =>
    obtain ⟨k, hk, rfl, rfl, rfl, m, rfl⟩ := hrel
    by_cases hlt : k < d + 1
    · obtain ⟨a1, a2⟩ := bd (n + 1) (by omega) k (by omega)
      obtain ⟨c1, c2⟩ := bd (n + 1) (by omega) (k + 1) (by omega)
      have HS := Lib.hid (show (smN (n + 1) (k + 1) : Int) = smN (n + 1) k + wyN (n + 1) k from by simp [smN])
      have HW := Lib.hid (show Int.tdiv ((wyN (n + 1) k : Int) * ((n : Int) - k)) ((k : Int) + 1) = (wyN (n + 1) (k + 1) : Int) from by
        rw [← next (n + 1) (by omega) (by omega) k (by omega), show ((n + 1 : Nat) : Int) - 1 - k = (n : Int) - k by omega])
      obtain ⟨m1, m2⟩ := mul_nn (A := 1000) (B := 100) (x := (wyN (n + 1) k : Int)) (y := (n : Int) - k) (by omega) (by omega) (by omega) (by omega)
      have hw0 : (0 : Int) ≤ (wyN (n + 1) k : Int) := by omega
      have hs0 : (0 : Int) ≤ (smN (n + 1) k : Int) := by omega
      have hw1 : (wyN (n + 1) k : Int) ≤ 1000 := by omega
      have hs1 : (smN (n + 1) k : Int) ≤ 1000 := by omega
      have hd0 : ((k : Int) + 1 == 0) = false := by rw [beq_eq_false_iff_ne]; omega
      have i2 : (k : Int) < (d : Int) + 1 := by omega
      have i3 : (k : Int) ≤ (d : Int) := by omega
      generalize (smN (n + 1) k : Int) = s at *
      generalize (wyN (n + 1) k : Int) = v at *
      have e1 : IntKind.i64.wrap (s + v) = s + v := IntWalk.i64_in _ (by omega)
      have e3 : IntKind.i64.wrap ((n : Int) - k) = (n : Int) - k := IntWalk.i64_in _ (by omega)
      have e4 : IntKind.i64.wrap (v * ((n : Int) - k)) = v * ((n : Int) - k) := IntWalk.i64_in _ (by omega)
      have e5 : IntKind.i64.wrap ((k : Int) + 1) = (k : Int) + 1 := IntWalk.i64_in _ (by omega)
      go_wp2_with fail
      go_roundw
      case rel => exact ⟨k + 1, by omega, by go_num, by rw [HS.out], by rw [← HW.out], _, rfl⟩
      case measure => simp [intOf]; omega
    · obtain rfl : k = d + 1 := by omega
      have i2 : ¬ ((d : Int) + 1 < (d : Int) + 1) := by omega
      have e1' : (((d + 1 : Nat) : Int)) = (d : Int) + 1 := by omega
      generalize hs : (smN (n + 1) (d + 1) : Int) = s at *
      have HSS := Lib.hid hs
      clear hs
      go_wp2_with fail
      go_ret
      exact ⟨by rw [HSS.out]; rfl, _, rfl⟩
set_option maxHeartbeats 1000000 in
theorem impl_no (n d : Int) (w : World) (h : pbB n d = false) :
    Calls Try.prog 47 #[.int .i64 n, .int .i64 d] w (RetNB 0 false w) := by
  by_cases h1 : n < 0
  · have g1 : decide (n < 0) = true := decide_eq_true h1
    clear h
    go_enter Try.func47, Try.ntmps47
    go_wp2_with fail
    go_ret2
    exact ⟨rfl, Below.refl _ _⟩
  · have g1 : decide (n < 0) = false := decide_eq_false h1
    by_cases h2 : n > 8
    · have g2 : decide (8 < n) = true := decide_eq_true h2
      clear h
      go_enter Try.func47, Try.ntmps47
      go_wp2_with fail
      go_ret2
      exact ⟨rfl, Below.refl _ _⟩
    · have g2 : decide (8 < n) = false := decide_eq_false h2
      by_cases h3 : d < 1
      · have g3 : decide (d < 1) = true := decide_eq_true h3
        clear h
        go_enter Try.func47, Try.ntmps47
        go_wp2_with fail
        go_ret2
        exact ⟨rfl, Below.refl _ _⟩
      · have g3 : decide (d < 1) = false := decide_eq_false h3
        have g4 : decide (4 < d) = true := decide_eq_true (by
          by_cases h4 : 4 < d
          · exact h4
          · have := (pbB_iff n d).2 (by omega)
            rw [this] at h; cases h)
        clear h
        go_enter Try.func47, Try.ntmps47
        go_wp2_with fail
        go_ret2
        exact ⟨rfl, Below.refl _ _⟩
set_option maxHeartbeats 1000000 in
theorem impl_zero (d : Int) (w : World) (h : 1 ≤ d ∧ d ≤ 4) :
    Calls Try.prog 47 #[.int .i64 0, .int .i64 d] w (RetNB 1 true w) := by
  have g3 : decide (d < 1) = false := decide_eq_false (by omega)
  have g4 : decide (4 < d) = false := decide_eq_false (by omega)
  clear h
  go_enter Try.func47, Try.ntmps47
  go_wp2_with fail
  go_ret2
  exact ⟨rfl, Below.refl _ _⟩
set_option maxHeartbeats 2000000 in
theorem impl_yes (n d : Nat) (w : World) (h1 : 1 ≤ n) (h8 : n ≤ 8) (d1 : 1 ≤ d) (d4 : d ≤ 4) :
    Calls Try.prog 47 #[.int .i64 n, .int .i64 d] w (RetNB (2 * (smN n (d + 1) : Int)) true w) := by
  have g1 : decide ((n : Int) < 0) = false := decide_eq_false (by omega)
  have g2 : decide ((8 : Int) < n) = false := decide_eq_false (by omega)
  have g3 : decide ((d : Int) < 1) = false := decide_eq_false (by omega)
  have g4 : decide ((4 : Int) < d) = false := decide_eq_false (by omega)
  have g0 : ((n : Int) == 0) = false := by rw [beq_eq_false_iff_ne]; omega
  have e0 : IntKind.i64.wrap ((n : Int) - 1) = (n : Int) - 1 := IntWalk.i64_in _ (by omega)
  have HC := Lib.hid (impl_count (n - 1) d w (by omega) (by omega))
  rw [show ((n - 1 : Nat) : Int) = (n : Int) - 1 by omega, show n - 1 + 1 = n by omega] at HC
  obtain ⟨a1, a2⟩ := bd n (by omega) (d + 1) (by omega)
  generalize hs : (smN n (d + 1) : Int) = s at *
  have e1 : IntKind.i64.wrap (2 * s) = 2 * s := IntWalk.i64_in _ (by omega)
  clear hs
  go_enter Try.func47, Try.ntmps47
  go_wp2_with fail
  refine HC.out.mono ?_
  rintro e w' ⟨rfl, m, rfl⟩
  go_wp2_with fail
  go_ret2
  exact ⟨rfl, ints.below_drewN (Below.refl _ _) _⟩
theorem spec_ok (n d : Int) (w : World) (h : pbB n d = true) :
    Calls Try.prog 46 #[.int .i64 n, .int .i64 d] w (RetNB (pb n d) true w) := by
  obtain ⟨⟨a1, a2⟩, b1, b2⟩ := (pbB_iff _ _).1 h
  by_cases h0 : n = 0
  · subst h0
    exact spec_zero d w ⟨b1, b2⟩
  · obtain ⟨m, rfl⟩ := Int.eq_ofNat_of_zero_le a1
    obtain ⟨k, rfl⟩ := Int.eq_ofNat_of_zero_le (show 0 ≤ d by omega)
    rw [show pb (m : Int) (k : Int) = 2 * (smN m (k + 1) : Int) from by unfold pb; rw [if_neg h0, Int.toNat_natCast, Int.toNat_natCast]]
    exact spec_yes m k w (by omega) (by omega) (by omega) (by omega)
theorem impl_ok (n d : Int) (w : World) (h : pbB n d = true) :
    Calls Try.prog 47 #[.int .i64 n, .int .i64 d] w (RetNB (pb n d) true w) := by
  obtain ⟨⟨a1, a2⟩, b1, b2⟩ := (pbB_iff _ _).1 h
  by_cases h0 : n = 0
  · subst h0
    exact impl_zero d w ⟨b1, b2⟩
  · obtain ⟨m, rfl⟩ := Int.eq_ofNat_of_zero_le a1
    obtain ⟨k, rfl⟩ := Int.eq_ofNat_of_zero_le (show 0 ≤ d by omega)
    rw [show pb (m : Int) (k : Int) = 2 * (smN m (k + 1) : Int) from by unfold pb; rw [if_neg h0, Int.toNat_natCast, Int.toNat_natCast]]
    exact impl_yes m k w (by omega) (by omega) (by omega) (by omega)
end Go.Proofs.Ytncidajjeccbkaa.partb
