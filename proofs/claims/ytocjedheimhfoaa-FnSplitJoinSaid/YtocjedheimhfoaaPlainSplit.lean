/- Splitting a string at a byte as a plain function: no condition. -/
import Derived.Test.YtocjedheimhfoaaPlainJoin
namespace Go.Proofs.Ytocjedheimhfoaa.psplit
open Go.RowKit pjoin

/-- The pieces that stand before the first k bytes' last separator, and where the next piece begins. -/
def st (s : ByteArray) (b : UInt8) : Nat → List ByteArray × Nat
  | 0 => ([], 0)
  | k + 1 => if s.data.toList[k]? = some b then ((st s b k).1 ++ [s.extract (st s b k).2 k], k + 1) else st s b k

def pieces (s : ByteArray) (b : UInt8) : List ByteArray := (st s b s.size).1 ++ [s.extract (st s b s.size).2 s.size]

theorem st_hit (s : ByteArray) (b : UInt8) (k : Nat) (h : k < s.size) (hb : s[k] = b) : st s b (k + 1) = ((st s b k).1 ++ [s.extract (st s b k).2 k], k + 1) := by
  rw [st, if_pos]
  rw [List.getElem?_eq_getElem (by simpa using h)]
  exact congrArg some hb

theorem st_miss (s : ByteArray) (b : UInt8) (k : Nat) (h : k < s.size) (hb : s[k] ≠ b) : st s b (k + 1) = st s b k := by
  rw [st, if_neg]
  rw [List.getElem?_eq_getElem (by simpa using h)]
  intro e
  exact hb (Option.some.inj e)

theorem from_le (s : ByteArray) (b : UInt8) (k : Nat) : (st s b k).2 ≤ k := by
  induction k with
  | zero => exact Nat.le_refl _
  | succ k ih => rw [st]; split <;> (try simp) <;> omega

theorem count_le (s : ByteArray) (b : UInt8) (k : Nat) : (st s b k).1.length ≤ k := by
  induction k with
  | zero => exact Nat.le_refl _
  | succ k ih => rw [st]; split <;> (try simp) <;> omega

theorem pieces_pos (s : ByteArray) (b : UInt8) : 0 < (pieces s b).length := by simp [pieces]
theorem pieces_length (s : ByteArray) (b : UInt8) : (pieces s b).length ≤ s.size + 1 := by
  have := count_le s b s.size
  simp [pieces]; omega

theorem piece_size (s : ByteArray) (b : UInt8) (k : Nat) (hk : k ≤ s.size) : ∀ p ∈ (st s b k).1, p.size ≤ s.size := by
  induction k with
  | zero => intro p hp; simp [st] at hp
  | succ k ih =>
    intro p hp
    rw [st] at hp
    split at hp
    · simp only [List.mem_append, List.mem_singleton] at hp
      rcases hp with hp | rfl
      · exact ih (by omega) p hp
      · rw [ByteArray.size_extract]; omega
    · exact ih (by omega) p hp

theorem st_step (s : ByteArray) (b : UInt8) (k : Nat) : (st s b k).1 <+: (st s b (k + 1)).1 := by
  rw [st]
  split
  · exact List.prefix_append _ _
  · exact List.prefix_rfl

theorem st_prefix (s : ByteArray) (b : UInt8) (k d : Nat) : (st s b k).1 <+: (st s b (k + d)).1 := by
  induction d with
  | zero => exact List.prefix_rfl
  | succ d ih => exact ih.trans (st_step s b (k + d))

theorem st_pieces (s : ByteArray) (b : UInt8) (k : Nat) (hk : k ≤ s.size) : (st s b k).1 <+: pieces s b := by
  obtain ⟨d, hd⟩ : ∃ d, s.size = k + d := ⟨s.size - k, by omega⟩
  have h := st_prefix s b k d
  rw [← hd] at h
  exact h.trans (List.prefix_append _ _)

theorem st_short (s : ByteArray) (b : UInt8) (k : Nat) (hk : k ≤ s.size) : (st s b k).1.length < (pieces s b).length := by
  obtain ⟨d, hd⟩ : ∃ d, s.size = k + d := ⟨s.size - k, by omega⟩
  have h := (st_prefix s b k d).length_le
  rw [← hd] at h
  simp [pieces]
  omega
end Go.Proofs.Ytocjedheimhfoaa.psplit
