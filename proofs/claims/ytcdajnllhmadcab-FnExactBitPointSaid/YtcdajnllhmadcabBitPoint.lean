/- The walks of the model's and the program's BitPoint. -/
import Derived.Test.YtcdajnllhmadcabBits
import Derived.Test.YtcdajnllhmadcabGrid
namespace Go.Proofs.Ytcdajnllhmadcab.bitpoint
open Go.RowKit own pp nums bitw
set_option linter.unusedVariables false

/-- A number of bits and a place. -/
def bpB (n k : Int) : Bool := decide (1 ≤ n ∧ n ≤ 4) && decide (0 ≤ k ∧ k < 2 ^ n.toNat)

theorem ret_bits {W w1 w2 : World} {v : Value} {zs : List Int} (h1 : Below W.heap.size W w1) (ho : OwnI w1.heap.size w2.heap.size w2 v zs) (h2 : Below w1.heap.size w1 w2) : RetIB zs true W (.returned (.tuple #[v, .bool true])) w2 :=
  ⟨v, rfl, ho.mono h1.size (Nat.le_refl _), h1.trans (h2.mono h1.size)⟩

set_option maxHeartbeats 1000000 in
theorem spec_no1 (n k : Int) (w : World) (hn : ¬ (1 ≤ n ∧ n ≤ 4)) :
    Calls Try.prog 44 #[.int .i64 n, .int .i64 k] w (RetIB [] false w) := by
  have H := Lib.hid hn
  clear hn
  go_enter Try.func44, Try.ntmps44
  go_wp2_with fail
  refine (in_any _ _ _ _ false (Lib.hid (by have := H.out; simp; omega))).mono ?_
  rintro e w' ⟨rfl, rfl⟩
  go_wp2_with fail
  go_ret2
  exact ret_empty (Below.refl _ _)
set_option maxHeartbeats 1000000 in
theorem spec_no_1 (k : Int) (w : World) (hk : ¬ (0 ≤ k ∧ k < 2)) :
    Calls Try.prog 44 #[.int .i64 1, .int .i64 k] w (RetIB [] false w) := by
  have H := Lib.hid hk
  clear hk
  go_enter Try.func44, Try.ntmps44
  go_wp2_with fail
  refine (in_any _ _ _ _ true (Lib.hid (by simp))).mono ?_
  rintro e w' ⟨rfl, rfl⟩
  go_wp2_with fail
  refine (in_any _ _ _ _ false (Lib.hid (by have := H.out; simp; omega))).mono ?_
  rintro e w' ⟨rfl, rfl⟩
  go_wp2_with fail
  go_ret2
  exact ret_empty (Below.refl _ _)
set_option maxHeartbeats 1000000 in
theorem spec_yes_1 (m : Nat) (w : World) (hk : m < 2) :
    Calls Try.prog 44 #[.int .i64 1, .int .i64 (m : Nat)] w (RetIB (bitsTo m 1) true w) := by
  go_enter Try.func44, Try.ntmps44
  go_wp2_with fail
  refine (in_any _ _ _ _ true (Lib.hid (by simp))).mono ?_
  rintro e w' ⟨rfl, rfl⟩
  go_wp2_with fail
  refine (in_any _ _ _ _ true (Lib.hid (by simp; omega))).mono ?_
  rintro e w' ⟨rfl, rfl⟩
  go_wp2_with fail
  refine (spec_bits 1 m _ (by omega) (by omega)).mono ?_
  rintro e w2 ⟨v, rfl, ho, hb⟩
  have HO := Lib.hid ho
  have HB := Lib.hid hb
  clear ho hb
  go_wp2_with fail
  go_ret2
  exact ret_bits (Below.refl _ _) HO.out HB.out
set_option maxHeartbeats 1000000 in
theorem spec_no_2 (k : Int) (w : World) (hk : ¬ (0 ≤ k ∧ k < 4)) :
    Calls Try.prog 44 #[.int .i64 2, .int .i64 k] w (RetIB [] false w) := by
  have H := Lib.hid hk
  clear hk
  go_enter Try.func44, Try.ntmps44
  go_wp2_with fail
  refine (in_any _ _ _ _ true (Lib.hid (by simp))).mono ?_
  rintro e w' ⟨rfl, rfl⟩
  go_wp2_with fail
  refine (in_any _ _ _ _ false (Lib.hid (by have := H.out; simp; omega))).mono ?_
  rintro e w' ⟨rfl, rfl⟩
  go_wp2_with fail
  go_ret2
  exact ret_empty (Below.refl _ _)
set_option maxHeartbeats 1000000 in
theorem spec_yes_2 (m : Nat) (w : World) (hk : m < 4) :
    Calls Try.prog 44 #[.int .i64 2, .int .i64 (m : Nat)] w (RetIB (bitsTo m 2) true w) := by
  go_enter Try.func44, Try.ntmps44
  go_wp2_with fail
  refine (in_any _ _ _ _ true (Lib.hid (by simp))).mono ?_
  rintro e w' ⟨rfl, rfl⟩
  go_wp2_with fail
  refine (in_any _ _ _ _ true (Lib.hid (by simp; omega))).mono ?_
  rintro e w' ⟨rfl, rfl⟩
  go_wp2_with fail
  refine (spec_bits 2 m _ (by omega) (by omega)).mono ?_
  rintro e w2 ⟨v, rfl, ho, hb⟩
  have HO := Lib.hid ho
  have HB := Lib.hid hb
  clear ho hb
  go_wp2_with fail
  go_ret2
  exact ret_bits (Below.refl _ _) HO.out HB.out
set_option maxHeartbeats 1000000 in
theorem spec_no_3 (k : Int) (w : World) (hk : ¬ (0 ≤ k ∧ k < 8)) :
    Calls Try.prog 44 #[.int .i64 3, .int .i64 k] w (RetIB [] false w) := by
  have H := Lib.hid hk
  clear hk
  go_enter Try.func44, Try.ntmps44
  go_wp2_with fail
  refine (in_any _ _ _ _ true (Lib.hid (by simp))).mono ?_
  rintro e w' ⟨rfl, rfl⟩
  go_wp2_with fail
  refine (in_any _ _ _ _ false (Lib.hid (by have := H.out; simp; omega))).mono ?_
  rintro e w' ⟨rfl, rfl⟩
  go_wp2_with fail
  go_ret2
  exact ret_empty (Below.refl _ _)
set_option maxHeartbeats 1000000 in
theorem spec_yes_3 (m : Nat) (w : World) (hk : m < 8) :
    Calls Try.prog 44 #[.int .i64 3, .int .i64 (m : Nat)] w (RetIB (bitsTo m 3) true w) := by
  go_enter Try.func44, Try.ntmps44
  go_wp2_with fail
  refine (in_any _ _ _ _ true (Lib.hid (by simp))).mono ?_
  rintro e w' ⟨rfl, rfl⟩
  go_wp2_with fail
  refine (in_any _ _ _ _ true (Lib.hid (by simp; omega))).mono ?_
  rintro e w' ⟨rfl, rfl⟩
  go_wp2_with fail
  refine (spec_bits 3 m _ (by omega) (by omega)).mono ?_
  rintro e w2 ⟨v, rfl, ho, hb⟩
  have HO := Lib.hid ho
  have HB := Lib.hid hb
  clear ho hb
  go_wp2_with fail
  go_ret2
  exact ret_bits (Below.refl _ _) HO.out HB.out
set_option maxHeartbeats 1000000 in
theorem spec_no_4 (k : Int) (w : World) (hk : ¬ (0 ≤ k ∧ k < 16)) :
    Calls Try.prog 44 #[.int .i64 4, .int .i64 k] w (RetIB [] false w) := by
  have H := Lib.hid hk
  clear hk
  go_enter Try.func44, Try.ntmps44
  go_wp2_with fail
  refine (in_any _ _ _ _ true (Lib.hid (by simp))).mono ?_
  rintro e w' ⟨rfl, rfl⟩
  go_wp2_with fail
  refine (in_any _ _ _ _ false (Lib.hid (by have := H.out; simp; omega))).mono ?_
  rintro e w' ⟨rfl, rfl⟩
  go_wp2_with fail
  go_ret2
  exact ret_empty (Below.refl _ _)
set_option maxHeartbeats 1000000 in
theorem spec_yes_4 (m : Nat) (w : World) (hk : m < 16) :
    Calls Try.prog 44 #[.int .i64 4, .int .i64 (m : Nat)] w (RetIB (bitsTo m 4) true w) := by
  go_enter Try.func44, Try.ntmps44
  go_wp2_with fail
  refine (in_any _ _ _ _ true (Lib.hid (by simp))).mono ?_
  rintro e w' ⟨rfl, rfl⟩
  go_wp2_with fail
  refine (in_any _ _ _ _ true (Lib.hid (by simp; omega))).mono ?_
  rintro e w' ⟨rfl, rfl⟩
  go_wp2_with fail
  refine (spec_bits 4 m _ (by omega) (by omega)).mono ?_
  rintro e w2 ⟨v, rfl, ho, hb⟩
  have HO := Lib.hid ho
  have HB := Lib.hid hb
  clear ho hb
  go_wp2_with fail
  go_ret2
  exact ret_bits (Below.refl _ _) HO.out HB.out
set_option maxHeartbeats 1000000 in
theorem impl_no0 (n k : Int) (w : World) (hn : n < 1) :
    Calls Try.prog 45 #[.int .i64 n, .int .i64 k] w (RetIB [] false w) := by
  go_enter Try.func45, Try.ntmps45
  go_wp2_with fail
  go_ret2
  exact ret_empty (Below.refl _ _)
set_option maxHeartbeats 1000000 in
theorem impl_no4 (n k : Int) (w : World) (hn : 4 < n) :
    Calls Try.prog 45 #[.int .i64 n, .int .i64 k] w (RetIB [] false w) := by
  have h1 : ¬ n < 1 := by omega
  go_enter Try.func45, Try.ntmps45
  go_wp2_with fail
  go_ret2
  exact ret_empty (Below.refl _ _)
set_option maxHeartbeats 1000000 in
theorem impl_neg_1 (k : Int) (w : World) (hk : k < 0) :
    Calls Try.prog 45 #[.int .i64 1, .int .i64 k] w (RetIB [] false w) := by
  go_enter Try.func45, Try.ntmps45
  go_wp2_with fail
  go_ret2
  exact ret_empty (Below.refl _ _)
set_option maxHeartbeats 1000000 in
theorem impl_big_1 (k : Int) (w : World) (hk : 2 ≤ k) :
    Calls Try.prog 45 #[.int .i64 1, .int .i64 k] w (RetIB [] false w) := by
  have h1 : ¬ k < 0 := by omega
  go_enter Try.func45, Try.ntmps45
  go_wp2_with fail
  go_ret2
  exact ret_empty (Below.refl _ _)
set_option maxHeartbeats 1000000 in
theorem impl_yes_1 (m : Nat) (w : World) (hk : m < 2) :
    Calls Try.prog 45 #[.int .i64 1, .int .i64 (m : Nat)] w (RetIB (bitsTo m 1) true w) := by
  have h1 : ¬ (m : Int) < 0 := by omega
  have h2 : ¬ (2 : Int) ≤ (m : Int) := by omega
  go_enter Try.func45, Try.ntmps45
  go_wp2_with fail
  refine (impl_bits 1 m _ (by omega) (by omega)).mono ?_
  rintro e w2 ⟨v, rfl, ho, hb⟩
  have HO := Lib.hid ho
  have HB := Lib.hid hb
  clear ho hb
  go_wp2_with fail
  go_ret2
  exact ret_bits (Below.refl _ _) HO.out HB.out
set_option maxHeartbeats 1000000 in
theorem impl_neg_2 (k : Int) (w : World) (hk : k < 0) :
    Calls Try.prog 45 #[.int .i64 2, .int .i64 k] w (RetIB [] false w) := by
  go_enter Try.func45, Try.ntmps45
  go_wp2_with fail
  go_ret2
  exact ret_empty (Below.refl _ _)
set_option maxHeartbeats 1000000 in
theorem impl_big_2 (k : Int) (w : World) (hk : 4 ≤ k) :
    Calls Try.prog 45 #[.int .i64 2, .int .i64 k] w (RetIB [] false w) := by
  have h1 : ¬ k < 0 := by omega
  go_enter Try.func45, Try.ntmps45
  go_wp2_with fail
  go_ret2
  exact ret_empty (Below.refl _ _)
set_option maxHeartbeats 1000000 in
theorem impl_yes_2 (m : Nat) (w : World) (hk : m < 4) :
    Calls Try.prog 45 #[.int .i64 2, .int .i64 (m : Nat)] w (RetIB (bitsTo m 2) true w) := by
  have h1 : ¬ (m : Int) < 0 := by omega
  have h2 : ¬ (4 : Int) ≤ (m : Int) := by omega
  go_enter Try.func45, Try.ntmps45
  go_wp2_with fail
  refine (impl_bits 2 m _ (by omega) (by omega)).mono ?_
  rintro e w2 ⟨v, rfl, ho, hb⟩
  have HO := Lib.hid ho
  have HB := Lib.hid hb
  clear ho hb
  go_wp2_with fail
  go_ret2
  exact ret_bits (Below.refl _ _) HO.out HB.out
set_option maxHeartbeats 1000000 in
theorem impl_neg_3 (k : Int) (w : World) (hk : k < 0) :
    Calls Try.prog 45 #[.int .i64 3, .int .i64 k] w (RetIB [] false w) := by
  go_enter Try.func45, Try.ntmps45
  go_wp2_with fail
  go_ret2
  exact ret_empty (Below.refl _ _)
set_option maxHeartbeats 1000000 in
theorem impl_big_3 (k : Int) (w : World) (hk : 8 ≤ k) :
    Calls Try.prog 45 #[.int .i64 3, .int .i64 k] w (RetIB [] false w) := by
  have h1 : ¬ k < 0 := by omega
  go_enter Try.func45, Try.ntmps45
  go_wp2_with fail
  go_ret2
  exact ret_empty (Below.refl _ _)
set_option maxHeartbeats 1000000 in
theorem impl_yes_3 (m : Nat) (w : World) (hk : m < 8) :
    Calls Try.prog 45 #[.int .i64 3, .int .i64 (m : Nat)] w (RetIB (bitsTo m 3) true w) := by
  have h1 : ¬ (m : Int) < 0 := by omega
  have h2 : ¬ (8 : Int) ≤ (m : Int) := by omega
  go_enter Try.func45, Try.ntmps45
  go_wp2_with fail
  refine (impl_bits 3 m _ (by omega) (by omega)).mono ?_
  rintro e w2 ⟨v, rfl, ho, hb⟩
  have HO := Lib.hid ho
  have HB := Lib.hid hb
  clear ho hb
  go_wp2_with fail
  go_ret2
  exact ret_bits (Below.refl _ _) HO.out HB.out
set_option maxHeartbeats 1000000 in
theorem impl_neg_4 (k : Int) (w : World) (hk : k < 0) :
    Calls Try.prog 45 #[.int .i64 4, .int .i64 k] w (RetIB [] false w) := by
  go_enter Try.func45, Try.ntmps45
  go_wp2_with fail
  go_ret2
  exact ret_empty (Below.refl _ _)
set_option maxHeartbeats 1000000 in
theorem impl_big_4 (k : Int) (w : World) (hk : 16 ≤ k) :
    Calls Try.prog 45 #[.int .i64 4, .int .i64 k] w (RetIB [] false w) := by
  have h1 : ¬ k < 0 := by omega
  go_enter Try.func45, Try.ntmps45
  go_wp2_with fail
  go_ret2
  exact ret_empty (Below.refl _ _)
set_option maxHeartbeats 1000000 in
theorem impl_yes_4 (m : Nat) (w : World) (hk : m < 16) :
    Calls Try.prog 45 #[.int .i64 4, .int .i64 (m : Nat)] w (RetIB (bitsTo m 4) true w) := by
  have h1 : ¬ (m : Int) < 0 := by omega
  have h2 : ¬ (16 : Int) ≤ (m : Int) := by omega
  go_enter Try.func45, Try.ntmps45
  go_wp2_with fail
  refine (impl_bits 4 m _ (by omega) (by omega)).mono ?_
  rintro e w2 ⟨v, rfl, ho, hb⟩
  have HO := Lib.hid ho
  have HB := Lib.hid hb
  clear ho hb
  go_wp2_with fail
  go_ret2
  exact ret_bits (Below.refl _ _) HO.out HB.out
theorem spec_no (n k : Int) (w : World) (h : bpB n k = false) :
    Calls Try.prog 44 #[.int .i64 n, .int .i64 k] w (RetIB [] false w) := by
  by_cases hn : 1 ≤ n ∧ n ≤ 4
  · have hk : ¬ (0 ≤ k ∧ k < 2 ^ n.toNat) := by simpa [bpB, hn] using h
    obtain ⟨a, c⟩ := hn
    rcases (show n = 1 ∨ n = 2 ∨ n = 3 ∨ n = 4 by omega) with rfl | rfl | rfl | rfl
    · have hk' : ¬ (0 ≤ k ∧ k < 2) := hk
      exact spec_no_1 k w hk'
    · have hk' : ¬ (0 ≤ k ∧ k < 4) := hk
      exact spec_no_2 k w hk'
    · have hk' : ¬ (0 ≤ k ∧ k < 8) := hk
      exact spec_no_3 k w hk'
    · have hk' : ¬ (0 ≤ k ∧ k < 16) := hk
      exact spec_no_4 k w hk'
  · exact spec_no1 n k w hn
theorem spec_yes (n k : Int) (w : World) (h : bpB n k = true) :
    Calls Try.prog 44 #[.int .i64 n, .int .i64 k] w (RetIB (bitsTo k.toNat n.toNat) true w) := by
  obtain ⟨⟨a, c⟩, d, e⟩ : (1 ≤ n ∧ n ≤ 4) ∧ 0 ≤ k ∧ k < 2 ^ n.toNat := by simpa [bpB] using h
  obtain ⟨m, rfl⟩ := Int.eq_ofNat_of_zero_le d
  rcases (show n = 1 ∨ n = 2 ∨ n = 3 ∨ n = 4 by omega) with rfl | rfl | rfl | rfl
  · have e' : (m : Int) < 2 := e
    exact spec_yes_1 m w (by omega)
  · have e' : (m : Int) < 4 := e
    exact spec_yes_2 m w (by omega)
  · have e' : (m : Int) < 8 := e
    exact spec_yes_3 m w (by omega)
  · have e' : (m : Int) < 16 := e
    exact spec_yes_4 m w (by omega)
theorem impl_no (n k : Int) (w : World) (h : bpB n k = false) :
    Calls Try.prog 45 #[.int .i64 n, .int .i64 k] w (RetIB [] false w) := by
  by_cases hn : 1 ≤ n ∧ n ≤ 4
  · have hk : ¬ (0 ≤ k ∧ k < 2 ^ n.toNat) := by simpa [bpB, hn] using h
    obtain ⟨a, c⟩ := hn
    rcases (show n = 1 ∨ n = 2 ∨ n = 3 ∨ n = 4 by omega) with rfl | rfl | rfl | rfl
    · have hk' : ¬ (0 ≤ k ∧ k < 2) := hk
      by_cases h0 : k < 0
      · exact impl_neg_1 k w h0
      · exact impl_big_1 k w (by omega)
    · have hk' : ¬ (0 ≤ k ∧ k < 4) := hk
      by_cases h0 : k < 0
      · exact impl_neg_2 k w h0
      · exact impl_big_2 k w (by omega)
    · have hk' : ¬ (0 ≤ k ∧ k < 8) := hk
      by_cases h0 : k < 0
      · exact impl_neg_3 k w h0
      · exact impl_big_3 k w (by omega)
    · have hk' : ¬ (0 ≤ k ∧ k < 16) := hk
      by_cases h0 : k < 0
      · exact impl_neg_4 k w h0
      · exact impl_big_4 k w (by omega)
  · by_cases h1 : n < 1
    · exact impl_no0 n k w h1
    · exact impl_no4 n k w (by omega)
theorem impl_yes (n k : Int) (w : World) (h : bpB n k = true) :
    Calls Try.prog 45 #[.int .i64 n, .int .i64 k] w (RetIB (bitsTo k.toNat n.toNat) true w) := by
  obtain ⟨⟨a, c⟩, d, e⟩ : (1 ≤ n ∧ n ≤ 4) ∧ 0 ≤ k ∧ k < 2 ^ n.toNat := by simpa [bpB] using h
  obtain ⟨m, rfl⟩ := Int.eq_ofNat_of_zero_le d
  rcases (show n = 1 ∨ n = 2 ∨ n = 3 ∨ n = 4 by omega) with rfl | rfl | rfl | rfl
  · have e' : (m : Int) < 2 := e
    exact impl_yes_1 m w (by omega)
  · have e' : (m : Int) < 4 := e
    exact impl_yes_2 m w (by omega)
  · have e' : (m : Int) < 8 := e
    exact impl_yes_3 m w (by omega)
  · have e' : (m : Int) < 16 := e
    exact impl_yes_4 m w (by omega)
end Go.Proofs.Ytcdajnllhmadcab.bitpoint
