/- What stands before the first of a byte, as a plain function: no condition. -/
import Derived.Test.YtocjedheimhfoaaDoorPlainSplit
import Derived.Lib.Bytealg
import Derived.Lib.IndexLaws
namespace Go.Proofs.YtocjedheimhfoaaDoor.pcut
open Go.RowKit pjoin psplit

/-- Where the byte stands first, or the end. -/
def firstAt (s : ByteArray) (b : UInt8) : Nat := if 0 ≤ Lib.indexByte s.data.toList b then (Lib.indexByte s.data.toList b).toNat else s.size
def head (s : ByteArray) (b : UInt8) : ByteArray := s.extract 0 (firstAt s b)

theorem none_before (s : ByteArray) (b : UInt8) (k : Nat) (hk : k < firstAt s b) : s.data.toList[k]? ≠ some b := by
  unfold firstAt at hk
  split at hk
  · rename_i h
    obtain ⟨o, ho⟩ := Int.eq_ofNat_of_zero_le h
    rw [ho] at hk
    exact (Lib.indexByte_some (o := o) ho).2 k (by simpa using hk)
  · rename_i h
    have := Lib.indexByte_ge s.data.toList b
    exact Lib.indexByte_none (by omega) k

theorem firstAt_le (s : ByteArray) (b : UInt8) : firstAt s b ≤ s.size := by
  unfold firstAt
  split
  · rename_i h
    obtain ⟨o, ho⟩ := Int.eq_ofNat_of_zero_le h
    have hs := (Lib.indexByte_some (o := o) ho).1
    rw [ho]
    obtain ⟨h1, _⟩ := List.getElem?_eq_some_iff.1 hs
    simp at h1 ⊢
    omega
  · exact Nat.le_refl _

theorem at_first (s : ByteArray) (b : UInt8) (h : firstAt s b < s.size) : s.data.toList[firstAt s b]? = some b := by
  by_cases h0 : 0 ≤ Lib.indexByte s.data.toList b
  · obtain ⟨o, ho⟩ := Int.eq_ofNat_of_zero_le h0
    have e : firstAt s b = o := by unfold firstAt; rw [if_pos h0, ho]; simp
    rw [e]
    exact (Lib.indexByte_some (o := o) ho).1
  · unfold firstAt at h
    rw [if_neg h0] at h
    omega

theorem st_before (s : ByteArray) (b : UInt8) (k : Nat) (hk : k ≤ firstAt s b) : st s b k = ([], 0) := by
  induction k with
  | zero => rfl
  | succ k ih => rw [st, if_neg (none_before s b k (by omega)), ih (by omega)]

theorem st_behind (s : ByteArray) (b : UInt8) (h : firstAt s b < s.size) (d : Nat) : (st s b (firstAt s b + 1 + d)).1[0]? = some (head s b) := by
  induction d with
  | zero =>
    rw [Nat.add_zero, st, if_pos (at_first s b h), st_before s b _ (Nat.le_refl _)]
    rfl
  | succ d ih =>
    rw [← Nat.add_assoc, st]
    split
    · rw [List.getElem?_append_left (List.getElem?_eq_some_iff.1 ih).1]; exact ih
    · exact ih

theorem pieces_head (s : ByteArray) (b : UInt8) : (pieces s b)[0]? = some (head s b) := by
  unfold pieces
  by_cases h : firstAt s b < s.size
  · obtain ⟨d, hd⟩ : ∃ d, s.size = firstAt s b + 1 + d := ⟨s.size - (firstAt s b + 1), by omega⟩
    have := st_behind s b h d
    rw [← hd] at this
    rw [List.getElem?_append_left (List.getElem?_eq_some_iff.1 this).1]
    exact this
  · have e : firstAt s b = s.size := by have := firstAt_le s b; omega
    rw [st_before s b s.size (by omega)]
    simp [head, e]

theorem head_size (s : ByteArray) (b : UInt8) : (head s b).size ≤ s.size := by
  unfold head
  rw [ByteArray.size_extract]
  omega

theorem head_clean (s : ByteArray) (b : UInt8) : has (head s b).data.toList b = false := by
  unfold has head
  simp only [List.contains_eq_mem, decide_eq_false_iff_not]
  intro hm
  obtain ⟨k, hk⟩ := List.getElem?_of_mem hm
  have hl := firstAt_le s b
  have e : (s.extract 0 (firstAt s b)).data.toList = s.data.toList.take (firstAt s b) := by simp
  rw [e, List.getElem?_take] at hk
  split at hk
  · rename_i h
    exact none_before s b k h hk
  · simp at hk
end Go.Proofs.YtocjedheimhfoaaDoor.pcut
