/- The walks of the model's and the program's WinnowBound. -/
import Derived.Test.YtfooajnjkkpkiaaNums
import Derived.Test.YtfooajnjkkpkiaaShelf
namespace Go.Proofs.Ytfooajnjkkpkiaa.winbound
open Go.RowKit own pp nums
set_option linter.unusedVariables false
set_option linter.unusedSimpArgs false

/-- The numbers of a bound. -/
def wbB (n k : Int) : Bool := (decide (1 ≤ n) && decide (n ≤ 8)) && (decide (0 ≤ k) && decide (k ≤ n))
theorem wbB_iff (n k : Int) : wbB n k = true ↔ (1 ≤ n ∧ n ≤ 8) ∧ 0 ≤ k ∧ k ≤ n := by simp [wbB, and_assoc]
/-- How often 1 is doubled till it is at least n. -/
def lg (n : Int) : Int := if n ≤ 1 then 0 else if n ≤ 2 then 1 else if n ≤ 4 then 2 else 3
def wb (n k : Int) : Int := 1 + 2 * k * lg n
theorem ret_nb {a b : Int} (h : a = b) : Ending.returned (.tuple #[.int .i64 a, .bool true]) = .returned (.tuple #[.int .i64 b, .bool true]) := by rw [h]

set_option maxHeartbeats 1000000 in
theorem spec_no (n k : Int) (w : World) (h : wbB n k = false) :
    Calls Try.prog 43 #[.int .i64 n, .int .i64 k] w (RetNB 0 false w) := by
  cases h1 : (decide (1 ≤ n) && decide (n ≤ 8))
  · have H1 := Lib.hid h1
    clear h h1
    go_enter Try.func43, Try.ntmps43
    go_wp2_with fail
    refine (in_any _ _ _ _ false H1).mono ?_
    rintro e w' ⟨rfl, rfl⟩
    go_wp2_with fail
    go_ret2
    exact ⟨rfl, Below.refl _ _⟩
  · have H2 : Hid ((decide (0 ≤ k) && decide (k ≤ n)) = false) := Lib.hid (by unfold wbB at h; rw [h1] at h; simpa using h)
    have H1 := Lib.hid h1
    clear h h1
    go_enter Try.func43, Try.ntmps43
    go_wp2_with fail
    refine (in_any _ _ _ _ true H1).mono ?_
    rintro e w' ⟨rfl, rfl⟩
    go_wp2_with fail
    refine (in_any _ _ _ _ false H2).mono ?_
    rintro e w' ⟨rfl, rfl⟩
    go_wp2_with fail
    go_ret2
    exact ⟨rfl, Below.refl _ _⟩

set_option maxHeartbeats 2000000 in
theorem spec_yes (n k : Int) (w : World) (h : wbB n k = true) :
    Calls Try.prog 43 #[.int .i64 n, .int .i64 k] w (RetNB (wb n k) true w) := by
  obtain ⟨⟨a1, a2⟩, b1, b2⟩ := (wbB_iff _ _).1 h
  have H1 : Hid ((decide (1 ≤ n) && decide (n ≤ 8)) = true) := Lib.hid (by simp [a1, a2])
  have H2 : Hid ((decide (0 ≤ k) && decide (k ≤ n)) = true) := Lib.hid (by simp [b1, b2])
  clear h
  go_enter Try.func43, Try.ntmps43
  go_wp2_with fail
  refine (in_any _ _ _ _ true H1).mono ?_
  rintro e w' ⟨rfl, rfl⟩
  go_wp2_with fail
  refine (in_any _ _ _ _ true H2).mono ?_
  rintro e w' ⟨rfl, rfl⟩
  go_wp2_with fail
  go_loop [6] (fun m => ∃ j : Nat, m = .int .i64 (j : Nat) ∧ (j = 0 ∨ (j = 1 ∧ 1 < n) ∨ (j = 2 ∧ 2 < n) ∨ (j = 3 ∧ 4 < n))) (fun m => 3 - (intOf m).toNat)
  case atStart => exact ⟨0, rfl, .inl rfl⟩
  case round =>
    obtain ⟨j, rfl, hj⟩ := hrel
    rcases hj with rfl | ⟨rfl, c⟩ | ⟨rfl, c⟩ | ⟨rfl, c⟩
    · by_cases d : 1 < n
      · have g : decide (1 < n) = true := by simp [d]
        go_wp2_with fail
        go_round
        case rel => exact ⟨1, rfl, .inr (.inl ⟨rfl, d⟩)⟩
        case measure => simp [intOf]
      · have HV := Lib.hid (show wb n k = 1 + 2 * k * 0 by unfold wb lg; rw [if_pos (by omega)])
        have g : decide (1 < n) = false := by simpa using d
        go_wp2_with fail
        go_ret2
        exact ⟨ret_nb (by have := HV.out; omega), Below.refl _ _⟩
    · by_cases d : 2 < n
      · have g : decide (2 < n) = true := by simp [d]
        go_wp2_with fail
        go_round
        case rel => exact ⟨2, rfl, .inr (.inr (.inl ⟨rfl, d⟩))⟩
        case measure => simp [intOf]
      · have HV := Lib.hid (show wb n k = 1 + 2 * k * 1 by unfold wb lg; rw [if_neg (by omega), if_pos (by omega)])
        have g : decide (2 < n) = false := by simpa using d
        go_wp2_with fail
        go_ret2
        exact ⟨ret_nb (by have := HV.out; omega), Below.refl _ _⟩
    · by_cases d : 4 < n
      · have g : decide (4 < n) = true := by simp [d]
        go_wp2_with fail
        go_round
        case rel => exact ⟨3, rfl, .inr (.inr (.inr ⟨rfl, d⟩))⟩
        case measure => simp [intOf]
      · have HV := Lib.hid (show wb n k = 1 + 2 * k * 2 by unfold wb lg; rw [if_neg (by omega), if_neg (by omega), if_pos (by omega)])
        have g : decide (4 < n) = false := by simpa using d
        go_wp2_with fail
        go_ret2
        exact ⟨ret_nb (by have := HV.out; omega), Below.refl _ _⟩
    · have HV := Lib.hid (show wb n k = 1 + 2 * k * 3 by unfold wb lg; rw [if_neg (by omega), if_neg (by omega), if_neg (by omega)])
      have g : decide (8 < n) = false := by simpa using a2
      go_wp2_with fail
      go_ret2
      exact ⟨ret_nb (by have := HV.out; omega), Below.refl _ _⟩
theorem count_any (n : Int) (w : World) (ok : Bool) (h : Hid ((decide (1 ≤ n) && decide (n ≤ 8)) = ok)) :
    Calls Try.prog 109 #[.int .i64 n] w (Says ok w) := by
  by_cases h1 : 1 ≤ n
  · by_cases h2 : n ≤ 8
    · have e : ok = true := by rw [← h.out]; simp [h1, h2]
      clear h
      subst e
      go_enter Try.func109, Try.ntmps109
      go_wp2
      go_ret
      exact ⟨rfl, rfl⟩
    · have e : ok = false := by rw [← h.out]; simp [h2]
      clear h
      subst e
      go_enter Try.func109, Try.ntmps109
      go_wp2
      go_ret
      exact ⟨rfl, rfl⟩
  · have e : ok = false := by rw [← h.out]; simp [h1]
    clear h
    subst e
    go_enter Try.func109, Try.ntmps109
    go_wp2
    go_ret
    exact ⟨rfl, rfl⟩
set_option maxHeartbeats 1000000 in
theorem impl_no (n k : Int) (w : World) (h : wbB n k = false) :
    Calls Try.prog 42 #[.int .i64 n, .int .i64 k] w (RetNB 0 false w) := by
  cases h1 : (decide (1 ≤ n) && decide (n ≤ 8))
  · have H1 := Lib.hid h1
    clear h h1
    go_enter Try.func42, Try.ntmps42
    go_wp2_with fail
    refine (count_any _ _ false H1).mono ?_
    rintro e w' ⟨rfl, rfl⟩
    go_wp2_with fail
    go_ret2
    exact ⟨rfl, Below.refl _ _⟩
  · have h2 : (decide (0 ≤ k) && decide (k ≤ n)) = false := by unfold wbB at h; rw [h1] at h; simpa using h
    have H1 := Lib.hid h1
    clear h h1
    by_cases d : 0 ≤ k
    · have d2 : n < k := by simp [d] at h2; omega
      have g1 : decide (k < 0) = false := by simp; omega
      have g2 : decide (n < k) = true := by simp; omega
      clear h2
      go_enter Try.func42, Try.ntmps42
      go_wp2_with fail
      refine (count_any _ _ true H1).mono ?_
      rintro e w' ⟨rfl, rfl⟩
      go_wp2_with fail
      go_ret2
      exact ⟨rfl, Below.refl _ _⟩
    · have g1 : decide (k < 0) = true := by simp; omega
      clear h2
      go_enter Try.func42, Try.ntmps42
      go_wp2_with fail
      refine (count_any _ _ true H1).mono ?_
      rintro e w' ⟨rfl, rfl⟩
      go_wp2_with fail
      go_ret2
      exact ⟨rfl, Below.refl _ _⟩

theorem len_lg (n : Int) (a1 : 1 ≤ n) (a2 : n ≤ 8) : (Lib.bitLen (n - 1).toNat : Int) = lg n := by
  have : n = 1 ∨ n = 2 ∨ n = 3 ∨ n = 4 ∨ n = 5 ∨ n = 6 ∨ n = 7 ∨ n = 8 := by omega
  rcases this with rfl | rfl | rfl | rfl | rfl | rfl | rfl | rfl <;> decide
theorem lg_cases (n : Int) : lg n = 0 ∨ lg n = 1 ∨ lg n = 2 ∨ lg n = 3 := by unfold lg; split <;> (try split) <;> (try split) <;> simp

set_option maxHeartbeats 1000000 in
theorem impl_yes (n k : Int) (w : World) (h : wbB n k = true) :
    Calls Try.prog 42 #[.int .i64 n, .int .i64 k] w (RetNB (wb n k) true w) := by
  obtain ⟨⟨a1, a2⟩, b1, b2⟩ := (wbB_iff _ _).1 h
  have H1 : Hid ((decide (1 ≤ n) && decide (n ≤ 8)) = true) := Lib.hid (by simp [a1, a2])
  have HL := Lib.hid (len_lg n a1 a2)
  have HV := Lib.hid (show wb n k = 1 + 2 * k * lg n from rfl)
  have hlg := lg_cases n
  have g1 : decide (k < 0) = false := by simp; omega
  have g2 : decide (n < k) = false := by simp; omega
  clear h
  generalize lg n = d at *
  go_enter Try.func42, Try.ntmps42
  go_wp2_with fail
  refine (count_any _ _ true H1).mono ?_
  rintro e w' ⟨rfl, rfl⟩
  go_wp2_with fail
  refine (Try.bits_Len _ _ (by omega) (by omega)).mono ?_
  rintro e w' ⟨rfl, rfl⟩
  rw [HL.out]
  rcases hlg with rfl | rfl | rfl | rfl <;> (go_wp2_with fail; go_ret2; exact ⟨ret_nb (by have := HV.out; omega), Below.refl _ _⟩)
end Go.Proofs.Ytfooajnjkkpkiaa.winbound
