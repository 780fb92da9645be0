/- The first set that teaches a hypothesis: plain; no condition. -/
import Derived.Test.YtncidajjeccbkaaSetsP
import Derived.Test.YtncidajjeccbkaaAtW
namespace Go.Proofs.Ytncidajjeccbkaa.teachp
open Go.RowKit own pp bitn setcmp setord edge setsp cls atw rising
set_option linter.unusedVariables false
set_option linter.unusedSimpArgs false

/-- No other hypothesis has the same labels at the places of a set. -/
def teachB (rows : List (List Int)) (i : Nat) (s : List Int) : Bool := (List.range rows.length).all fun j => j == i || !(hasB rows s (atL (rows.getD i []) s) j)
def verL (rows : List (List Int)) (i : Nat) (s : List Int) : List Int := pwh.placesTo (hasB rows s (atL (rows.getD i []) s)) rows.length
theorem one_of {l : List Nat} (hn : l.Nodup) {i : Nat} (hi : i ∈ l) : (1 < l.length) ↔ ∃ j, j ∈ l ∧ j ≠ i := by
  match l, hn, hi with
  | [x], _, hi =>
    have e : i = x := by simpa using hi
    constructor
    · intro h; simp at h
    · rintro ⟨j, hj, hne⟩
      have : j = x := by simpa using hj
      omega
  | x :: y :: t, hn, hi =>
    constructor
    · intro _
      rw [List.nodup_cons] at hn
      by_cases e : x = i
      · exact ⟨y, by simp, fun e2 => hn.1 (by rw [e, ← e2]; simp)⟩
      · exact ⟨x, by simp, e⟩
    · intro _
      simp
theorem ver_one {rows : List (List Int)} {i : Nat} (hi : i < rows.length) (s : List Int) : decide (1 < ((verL rows i s).length : Int)) = !(teachB rows i s) := by
  have hl : (verL rows i s).length = ((List.range rows.length).filter (hasB rows s (atL (rows.getD i []) s))).length := by unfold verL pwh.placesTo; rw [List.length_map]
  have hnd : ((List.range rows.length).filter (hasB rows s (atL (rows.getD i []) s))).Nodup := List.Pairwise.filter _ List.nodup_range
  have hself : hasB rows s (atL (rows.getD i []) s) i = true := by unfold hasB; simp
  have hm : i ∈ (List.range rows.length).filter (hasB rows s (atL (rows.getD i []) s)) := List.mem_filter.2 ⟨List.mem_range.2 hi, hself⟩
  have key := one_of hnd hm
  rw [hl]
  cases ht : teachB rows i s
  · rw [Bool.not_false]
    refine decide_eq_true ?_
    have : 1 < ((List.range rows.length).filter (hasB rows s (atL (rows.getD i []) s))).length := by
      rw [key]
      unfold teachB at ht
      rw [List.all_eq_false] at ht
      obtain ⟨j, hj, hx⟩ := ht
      rw [Bool.not_eq_true, Bool.or_eq_false_iff, Bool.not_eq_false', beq_eq_false_iff_ne] at hx
      exact ⟨j, List.mem_filter.2 ⟨hj, hx.2⟩, hx.1⟩
    omega
  · rw [Bool.not_true]
    refine decide_eq_false ?_
    intro h
    have h2 : 1 < ((List.range rows.length).filter (hasB rows s (atL (rows.getD i []) s))).length := by omega
    obtain ⟨j, hj, hne⟩ := key.1 h2
    obtain ⟨hj1, hj2⟩ := List.mem_filter.1 hj
    unfold teachB at ht
    have := List.all_eq_true.1 ht j hj1
    rw [hj2, Bool.not_true, Bool.or_false, beq_iff_eq] at this
    exact hne this
/-- The list of all places. -/
theorem full_mem (m : Nat) : bitsL m (2 ^ m - 1) ∈ allS m := by
  unfold allS
  rw [(puts_perm _).mem_iff]
  exact List.mem_map.2 ⟨2 ^ m - 1, List.mem_range.2 (by have := Nat.two_pow_pos m; omega), rfl⟩
theorem full_eq (m : Nat) : bitsL m (2 ^ m - 1) = (List.range m).map (fun i : Nat => (i : Int)) := by
  unfold bitsL pwh.placesTo
  rw [List.filter_eq_self.2]
  intro i hi
  have h1 := List.mem_range.1 hi
  have : dg (2 ^ m - 1) i = 1 := by
    rw [dg_bit, Nat.testBit_two_pow_sub_one]
    exact decide_eq_true h1
  rw [this]; rfl
theorem at_full {row : List Int} {m : Nat} (h : row.length = m) : atL row (bitsL m (2 ^ m - 1)) = row := by
  rw [full_eq]
  unfold atL
  rw [List.map_map]
  subst h
  apply List.ext_getElem?
  intro i
  by_cases hi : i < row.length
  · simp [hi, List.getElem?_eq_getElem hi]
  · simp [List.getElem?_eq_none (show row.length ≤ i by omega), List.getElem?_eq_none (show (List.range row.length).length ≤ i by simp; omega)]
theorem full_teach {rows : List (List Int)} {m : Nat} (hC : Cls rows m) {i : Nat} (hi : i < rows.length) : teachB rows i (bitsL m (2 ^ m - 1)) = true := by
  unfold teachB
  rw [List.all_eq_true]
  intro j hj
  have hj := List.mem_range.1 hj
  by_cases e : j = i
  · rw [e]; simp
  · have : hasB rows (bitsL m (2 ^ m - 1)) (atL (rows.getD i []) (bitsL m (2 ^ m - 1))) j = false := by
      unfold hasB
      rw [at_full (hC.len i hi), at_full (hC.len j hj)]
      exact decide_eq_false fun e2 => e (hC.ne hj hi e2)
    rw [this]; simp
/-- The place of the first set that teaches. -/
def tIdx (rows : List (List Int)) (m i : Nat) : Nat := (allS m).findIdx (teachB rows i)
def teachS (rows : List (List Int)) (m i : Nat) : List Int := (allS m).getD (tIdx rows m i) []
theorem idx_lt {rows : List (List Int)} {m : Nat} (hC : Cls rows m) {i : Nat} (hi : i < rows.length) : tIdx rows m i < (allS m).length :=
  List.findIdx_lt_length_of_exists ⟨_, full_mem m, full_teach hC hi⟩
theorem idx_before {rows : List (List Int)} {m i k : Nat} (h : k < tIdx rows m i) (hk : k < (allS m).length) : teachB rows i ((allS m).getD k []) = false := by
  have := List.not_of_lt_findIdx h
  rw [List.getD_eq_getElem?_getD, List.getElem?_eq_getElem hk]
  simpa using this
theorem idx_at {rows : List (List Int)} {m i : Nat} (h : tIdx rows m i < (allS m).length) : teachB rows i ((allS m).getD (tIdx rows m i) []) = true := by
  rw [List.getD_eq_getElem?_getD, List.getElem?_eq_getElem h]
  exact List.findIdx_getElem
theorem bits_inside (m k : Nat) : Inside m (bitsL m k) := by
  intro j hj
  have hm := getD_mem (bitsL m k) 0 j hj
  unfold bitsL pwh.placesTo at hm
  obtain ⟨x, hx, e⟩ := List.mem_map.1 hm
  have := List.mem_range.1 (List.mem_filter.1 hx).1
  unfold bitsL pwh.placesTo
  rw [← e]
  omega
theorem set_inside {m : Nat} {s : List Int} (h : s ∈ allS m) : Inside m s ∧ s.length ≤ m := by
  obtain ⟨k, _, rfl⟩ := all_mem h
  exact ⟨bits_inside m k, bits_len m k⟩
end Go.Proofs.Ytncidajjeccbkaa.teachp
