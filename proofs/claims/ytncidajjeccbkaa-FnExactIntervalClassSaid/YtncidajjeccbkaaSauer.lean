/- The walks of the model's and the program's SauerBound. -/
import Derived.Test.YtncidajjeccbkaaPartB
namespace Go.Proofs.Ytncidajjeccbkaa.sauer
open Go.RowKit own pp nums most partb
set_option linter.unusedVariables false
set_option linter.unusedSimpArgs false

/-- The model's way to choose k of m things. -/
def chN (m k : Nat) : Nat → Nat
  | 0 => 1
  | i + 1 => chN m k i * (m - k + (i + 1)) / (i + 1)
theorem ch_bd : ∀ m, m < 9 → ∀ k, k ≤ m → ∀ i, i ≤ k → chN m k i ≤ 1000 := by decide
theorem ch_next : ∀ m, m < 9 → ∀ k, k ≤ m → ∀ i, i < k → Int.tdiv ((chN m k i : Int) * ((m : Int) - k + (i + 1))) ((i : Int) + 1) = (chN m k (i + 1) : Int) := by decide
theorem ch_all : ∀ m, m < 9 → ∀ k, k ≤ m → chN m k k = wyN (m + 1) k := by decide
theorem sm_min : ∀ m, m < 9 → ∀ d, d < 9 → smN (m + 1) (min d m + 1) = smN (m + 1) (d + 1) := by decide
def sbB (m d : Int) : Bool := (decide (0 ≤ m) && decide (m ≤ 8)) && (decide (0 ≤ d) && decide (d ≤ 8))
theorem sbB_iff (m d : Int) : sbB m d = true ↔ (0 ≤ m ∧ m ≤ 8) ∧ 0 ≤ d ∧ d ≤ 8 := by simp [sbB, and_assoc]
def sb (m d : Int) : Int := (smN (m.toNat + 1) (d.toNat + 1) : Int)

set_option maxHeartbeats 2000000 in
theorem spec_choose (m k : Nat) (w : World) (h8 : m ≤ 8) (hk : k ≤ m) :
    Calls Try.prog 68 #[.int .i64 m, .int .i64 k] w (fun e w' => e = .returned (.int .i64 (wyN (m + 1) k : Int)) ∧ ∃ q, w' = w.drewN q) := by
  go_enter Try.func68, Try.ntmps68
  go_wp2_with fail
  go_loopw [5, 6] (fun v i wr => ∃ j : Nat, j ≤ k ∧ i = .int .i64 (((j + 1 : Nat) : Nat) : Int) ∧ v = .int .i64 (chN m k j : Int) ∧ ∃ q, wr = w.drewN q) (fun _ i _ => k + 1 - (intOf i).toNat)
  case atStart => exact ⟨0, by omega, rfl, rfl, 0, rfl⟩
  case round =>
    obtain ⟨j, hj, rfl, rfl, q, rfl⟩ := hrel
    by_cases hlt : j < k
    · have a1 := ch_bd m (by omega) k hk j (by omega)
      have HW := Lib.hid (ch_next m (by omega) k hk j hlt)
      obtain ⟨m1, m2⟩ := mul_nn (A := 1000) (B := 100) (x := (chN m k j : Int)) (y := (m : Int) - k + (j + 1)) (by omega) (by omega) (by omega) (by omega)
      have hw0 : (0 : Int) ≤ (chN m k j : Int) := by omega
      have hw1 : (chN m k j : Int) ≤ 1000 := by omega
      have hd0 : ((j : Int) + 1 == 0) = false := by rw [beq_eq_false_iff_ne]; omega
      have i2 : (j : Int) + 1 ≤ (k : Int) := by omega
      generalize (chN m k j : Int) = v at *
      have e2 : IntKind.i64.wrap ((m : Int) - k) = (m : Int) - k := IntWalk.i64_in _ (by omega)
      have e3 : IntKind.i64.wrap ((m : Int) - k + (j + 1)) = (m : Int) - k + (j + 1) := IntWalk.i64_in _ (by omega)
      have e4 : IntKind.i64.wrap (v * ((m : Int) - k + (j + 1))) = v * ((m : Int) - k + (j + 1)) := IntWalk.i64_in _ (by omega)
      have e5 : IntKind.i64.wrap ((j : Int) + 1 + 1) = (j : Int) + 1 + 1 := IntWalk.i64_in _ (by omega)
      go_wp2_with fail
      go_roundw
      case rel => exact ⟨j + 1, by omega, by go_num, by rw [← HW.out], _, rfl⟩
      case measure => simp [intOf]; omega
    · obtain rfl : j = k := by omega
      have i2 : ¬ ((j : Int) + 1 ≤ (j : Int)) := by omega
      rw [ch_all m (by omega) j hk]
      generalize hs : (wyN (m + 1) j : Int) = s at *
      have HSS := Lib.hid hs
      clear hs
      go_wp2_with fail
      go_ret
      exact ⟨by rw [HSS.out]; rfl, _, rfl⟩
set_option maxHeartbeats 1000000 in
theorem spec_no (m d : Int) (w : World) (h : sbB m d = false) :
    Calls Try.prog 35 #[.int .i64 m, .int .i64 d] w (RetNB 0 false w) := by
  cases h1 : (decide (0 ≤ m) && decide (m ≤ 8))
  · have H1 := Lib.hid h1
    clear h h1
    go_enter Try.func35, Try.ntmps35
    go_wp2_with fail
    refine (in_any _ _ _ _ false H1).mono ?_
    rintro e w' ⟨rfl, rfl⟩
    go_wp2_with fail
    go_ret2
    exact ⟨rfl, Below.refl _ _⟩
  · have H2 : Hid ((decide (0 ≤ d) && decide (d ≤ 8)) = false) := Lib.hid (by unfold sbB at h; rw [h1] at h; simpa using h)
    have H1 := Lib.hid h1
    clear h h1
    go_enter Try.func35, Try.ntmps35
    go_wp2_with fail
    refine (in_any _ _ _ _ true H1).mono ?_
    rintro e w' ⟨rfl, rfl⟩
    go_wp2_with fail
    refine (in_any _ _ _ _ false H2).mono ?_
    rintro e w' ⟨rfl, rfl⟩
    go_wp2_with fail
    go_ret2
    exact ⟨rfl, Below.refl _ _⟩
set_option maxHeartbeats 2000000 in
theorem spec_yes (m d : Nat) (w : World) (h8 : m ≤ 8) (d8 : d ≤ 8) :
    Calls Try.prog 35 #[.int .i64 m, .int .i64 d] w (RetNB (smN (m + 1) (d + 1) : Int) true w) := by
  have H1 : Hid ((decide ((0 : Int) ≤ m) && decide ((m : Int) ≤ 8)) = true) := Lib.hid (by simp; omega)
  have H2 : Hid ((decide ((0 : Int) ≤ d) && decide ((d : Int) ≤ 8)) = true) := Lib.hid (by simp; omega)
  go_enter Try.func35, Try.ntmps35
  go_wp2_with fail
  refine (in_any _ _ _ _ true H1).mono ?_
  rintro e w' ⟨rfl, rfl⟩
  go_wp2_with fail
  refine (in_any _ _ _ _ true H2).mono ?_
  rintro e w' ⟨rfl, rfl⟩
  go_wp2_with fail
  go_loopw [6, 7] (fun s i wr => ∃ k : Nat, k ≤ min d m + 1 ∧ i = .int .i64 k ∧ s = .int .i64 (smN (m + 1) k : Int) ∧ ∃ q, wr = w.drewN q) (fun _ i _ => min d m + 1 - (intOf i).toNat)
  case atStart => exact ⟨0, by omega, rfl, rfl, 0, rfl⟩
  case round =>
    obtain ⟨k, hk, rfl, rfl, q, rfl⟩ := hrel
    by_cases hlt : k < min d m + 1
    · obtain ⟨a1, a2⟩ := bd (m + 1) (by omega) k (by omega)
      have HS := Lib.hid (show (smN (m + 1) (k + 1) : Int) = smN (m + 1) k + wyN (m + 1) k from by simp [smN])
      have HC := Lib.hid (fun (wa : World) => spec_choose m k wa h8 (by omega))
      have hw0 : (0 : Int) ≤ (wyN (m + 1) k : Int) := by omega
      have hs0 : (0 : Int) ≤ (smN (m + 1) k : Int) := by omega
      have hw1 : (wyN (m + 1) k : Int) ≤ 1000 := by omega
      have hs1 : (smN (m + 1) k : Int) ≤ 1000 := by omega
      have i2 : (k : Int) ≤ (d : Int) := by omega
      have i3 : (k : Int) ≤ (m : Int) := by omega
      generalize (smN (m + 1) k : Int) = s at *
      generalize (wyN (m + 1) k : Int) = v at *
      have e1 : IntKind.i64.wrap (s + v) = s + v := IntWalk.i64_in _ (by omega)
      go_wp2_with fail
      refine (HC.out _).mono ?_
      rintro e w' ⟨rfl, q2, rfl⟩
      go_wp2_with fail
      go_roundw
      case rel => exact ⟨k + 1, by omega, by go_num, by rw [HS.out], _, rfl⟩
      case measure => simp [intOf]; omega
    · obtain rfl : k = min d m + 1 := by omega
      have i3 : ¬ ((((min d m + 1 : Nat) : Int) ≤ (d : Int)) ∧ (((min d m + 1 : Nat) : Int) ≤ (m : Int))) := by omega
      rw [sm_min m (by omega) d (by omega)]
      generalize (smN (m + 1) (d + 1) : Int) = s at *
      by_cases hdm : (((min d m + 1 : Nat) : Int) ≤ (d : Int))
      · have i4 : ¬ (((min d m + 1 : Nat) : Int) ≤ (m : Int)) := by omega
        clear i3
        generalize ((min d m + 1 : Nat) : Int) = y at *
        go_wp2_with fail
        go_ret2
        exact ⟨rfl, ints.below_drewN (Below.refl _ _) _⟩
      · clear i3
        generalize ((min d m + 1 : Nat) : Int) = y at *
        go_wp2_with fail
        go_ret2
        exact ⟨rfl, ints.below_drewN (Below.refl _ _) _⟩
theorem spec_ok (m d : Int) (w : World) (h : sbB m d = true) :
    Calls Try.prog 35 #[.int .i64 m, .int .i64 d] w (RetNB (sb m d) true w) := by
  obtain ⟨⟨a1, a2⟩, b1, b2⟩ := (sbB_iff _ _).1 h
  obtain ⟨x, rfl⟩ := Int.eq_ofNat_of_zero_le a1
  obtain ⟨y, rfl⟩ := Int.eq_ofNat_of_zero_le b1
  rw [show sb (x : Int) (y : Int) = (smN (x + 1) (y + 1) : Int) from by unfold sb; rw [Int.toNat_natCast, Int.toNat_natCast]]
  exact spec_yes x y w (by omega) (by omega)
theorem impl_label_count (m : Int) (w : World) (ok : Bool) (h : Hid ((decide (0 ≤ m) && decide (m ≤ 8)) = ok)) :
    Calls Try.prog 55 #[.int .i64 m] w (Says ok w) := by
  by_cases h1 : 0 ≤ m
  · have g1 : decide (0 ≤ m) = true := decide_eq_true h1
    have e : ok = decide (m ≤ 8) := by rw [← h.out, g1, Bool.true_and]
    clear h
    subst e
    go_enter Try.func55, Try.ntmps55
    go_wp2_with fail
    go_ret
    exact ⟨rfl, rfl⟩
  · have g1 : decide (0 ≤ m) = false := decide_eq_false h1
    have e : ok = false := by rw [← h.out, g1, Bool.false_and]
    clear h
    subst e
    go_enter Try.func55, Try.ntmps55
    go_wp2_with fail
    go_ret
    exact ⟨rfl, rfl⟩
set_option maxHeartbeats 1000000 in
theorem impl_no (m d : Int) (w : World) (h : sbB m d = false) :
    Calls Try.prog 36 #[.int .i64 m, .int .i64 d] w (RetNB 0 false w) := by
  cases h1 : (decide (0 ≤ m) && decide (m ≤ 8))
  · have H1 := Lib.hid h1
    clear h h1
    go_enter Try.func36, Try.ntmps36
    go_wp2_with fail
    refine (impl_label_count _ _ false H1).mono ?_
    rintro e w' ⟨rfl, rfl⟩
    go_wp2_with fail
    go_ret2
    exact ⟨rfl, Below.refl _ _⟩
  · have H2 : Hid ((decide (0 ≤ d) && decide (d ≤ 8)) = false) := Lib.hid (by unfold sbB at h; rw [h1] at h; simpa using h)
    have H1 := Lib.hid h1
    clear h h1
    go_enter Try.func36, Try.ntmps36
    go_wp2_with fail
    refine (impl_label_count _ _ true H1).mono ?_
    rintro e w' ⟨rfl, rfl⟩
    go_wp2_with fail
    refine (impl_label_count _ _ false H2).mono ?_
    rintro e w' ⟨rfl, rfl⟩
    go_wp2_with fail
    go_ret2
    exact ⟨rfl, Below.refl _ _⟩
set_option maxHeartbeats 1000000 in
theorem impl_ok (m d : Int) (w : World) (h : sbB m d = true) :
    Calls Try.prog 36 #[.int .i64 m, .int .i64 d] w (RetNB (sb m d) true w) := by
  obtain ⟨⟨a1, a2⟩, b1, b2⟩ := (sbB_iff _ _).1 h
  obtain ⟨x, rfl⟩ := Int.eq_ofNat_of_zero_le a1
  obtain ⟨y, rfl⟩ := Int.eq_ofNat_of_zero_le b1
  rw [show sb (x : Int) (y : Int) = (smN (x + 1) (y + 1) : Int) from by unfold sb; rw [Int.toNat_natCast, Int.toNat_natCast]]
  have H1 : Hid ((decide ((0 : Int) ≤ x) && decide ((x : Int) ≤ 8)) = true) := Lib.hid (by simp; omega)
  have H2 : Hid ((decide ((0 : Int) ≤ y) && decide ((y : Int) ≤ 8)) = true) := Lib.hid (by simp; omega)
  have HC := Lib.hid (impl_count x y w (by omega) (by omega))
  generalize (smN (x + 1) (y + 1) : Int) = s at *
  clear h
  go_enter Try.func36, Try.ntmps36
  go_wp2_with fail
  refine (impl_label_count _ _ true H1).mono ?_
  rintro e w' ⟨rfl, rfl⟩
  go_wp2_with fail
  refine (impl_label_count _ _ true H2).mono ?_
  rintro e w' ⟨rfl, rfl⟩
  go_wp2_with fail
  refine HC.out.mono ?_
  rintro e w' ⟨rfl, q, rfl⟩
  go_wp2_with fail
  go_ret2
  exact ⟨rfl, ints.below_drewN (Below.refl _ _) _⟩
end Go.Proofs.Ytncidajjeccbkaa.sauer
