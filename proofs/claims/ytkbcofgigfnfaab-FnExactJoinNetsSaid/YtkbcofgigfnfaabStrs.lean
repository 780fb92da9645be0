/- Lists of strings in memory, as a slice reads them, and the sum of their lengths: plain lemmas, no condition. -/
import Derived.WalkKit
import Derived.Lib.Hide
namespace Go.Proofs.Ytkbcofgigfnfaab.strs
open Go.RowKit

/-- The slice with this address reads as these strings in the world w. -/
def Reads (w : World) (a : Option Addr) (ss : List ByteArray) : Prop :=
  ss = [] ∨ ∃ b off, a = some ⟨b, off, none⟩ ∧ b < w.heap.size ∧ ∀ i, i < ss.length → w.cell? ⟨b, off + i, none⟩ = some (.string (ss.getD i ByteArray.empty))

theorem Reads.at {w : World} {a : Option Addr} {ss : List ByteArray} (h : Reads w a ss) {k : Nat} (hk : k < ss.length) :
    ∃ b off, a = some ⟨b, off, none⟩ ∧ b < w.heap.size ∧ w.cell? ⟨b, off + k, none⟩ = some (.string (ss.getD k ByteArray.empty)) := by
  rcases h with rfl | ⟨b, off, e, hb, hc⟩
  · simp at hk
  · exact ⟨b, off, e, hb, hc k hk⟩

theorem Reads.below {w w' : World} {a : Option Addr} {ss : List ByteArray} (h : Reads w a ss) (hb : Below w.heap.size w w') : Reads w' a ss := by
  rcases h with rfl | ⟨b, off, e, hlt, hc⟩
  · exact .inl rfl
  · exact .inr ⟨b, off, e, Nat.lt_of_lt_of_le hlt hb.size, fun i hi => (hb.cell (p := ⟨b, off + i, none⟩) hlt).trans (hc i hi)⟩

/-- The sum of the lengths. -/
def tot (ss : List ByteArray) : Nat := (ss.map ByteArray.size).sum

theorem tot_take_succ (ss : List ByteArray) (k : Nat) (h : k < ss.length) : tot (ss.take (k + 1)) = tot (ss.take k) + (ss.getD k ByteArray.empty).size := by
  unfold tot
  rw [List.take_succ_eq_append_getElem h, List.map_append, List.sum_append, List.getD_eq_getElem?_getD, List.getElem?_eq_getElem h]
  simp only [List.map_cons, List.map_nil, List.sum_cons, List.sum_nil, Nat.add_zero, Option.getD_some]

theorem tot_take_le (ss : List ByteArray) (k : Nat) : tot (ss.take k) ≤ tot ss := by
  induction ss generalizing k with
  | nil => simp [tot]
  | cons x r ih =>
    cases k with
    | zero => simp [tot]
    | succ k => have := ih k; simp only [tot, List.take_succ_cons, List.map_cons, List.sum_cons] at this ⊢; omega

theorem tot_all (ss : List ByteArray) : tot (ss.take ss.length) = tot ss := by rw [List.take_length]
theorem tot_nil : tot [] = 0 := rfl

theorem size_le_tot (ss : List ByteArray) (s : ByteArray) (h : s ∈ ss) : s.size ≤ tot ss := by
  induction ss with
  | nil => cases h
  | cons x r ih =>
    simp only [tot, List.map_cons, List.sum_cons] at *
    cases List.mem_cons.1 h with
    | inl e => subst e; omega
    | inr e => have := ih e; omega

theorem getD_size_le (ss : List ByteArray) (k : Nat) : (ss.getD k ByteArray.empty).size ≤ tot ss := by
  by_cases h : k < ss.length
  · exact size_le_tot ss _ (by rw [List.getD_eq_getElem?_getD, List.getElem?_eq_getElem h]; simp)
  · rw [List.getD_eq_getElem?_getD, List.getElem?_eq_none (by omega)]; simp

/-- The first k of the strings, then empty ones. -/
def filled (ss : List ByteArray) (k : Nat) : List Value := (ss.take k).map Value.string ++ List.replicate (ss.length - k) (.string ByteArray.empty)

theorem filled_zero (ss : List ByteArray) : filled ss 0 = List.replicate ss.length (.string ByteArray.empty) := by simp [filled]
theorem filled_all (ss : List ByteArray) : filled ss ss.length = ss.map Value.string := by simp [filled]
theorem filled_length (ss : List ByteArray) (k : Nat) (h : k ≤ ss.length) : (filled ss k).length = ss.length := by simp [filled]; omega

theorem filled_succ (ss : List ByteArray) (k : Nat) (h : k < ss.length) : (filled ss k).set k (.string (ss.getD k ByteArray.empty)) = filled ss (k + 1) := by
  unfold filled
  rw [List.set_append, if_neg (by simp; omega)]
  have e : ss.length - k = (ss.length - (k + 1)) + 1 := by omega
  rw [e, List.replicate_succ, show k - ((ss.take k).map Value.string).length = 0 by simp; omega, List.set_cons_zero, List.take_succ_eq_append_getElem h, List.map_append, List.append_assoc, List.getD_eq_getElem?_getD, List.getElem?_eq_getElem h]
  rfl

theorem filled_at (ss : List ByteArray) (k : Nat) (h : k < ss.length) : (filled ss k)[k]? = some (.string ByteArray.empty) := by
  unfold filled
  rw [List.getElem?_append_right (by simp; omega), List.getElem?_replicate, if_pos (by simp; omega)]

/-- What the call itself made and filled reads as the strings. -/
theorem reads_of_owns {w : World} {e : TypeId} {base g cap : Nat} {ss : List ByteArray} (h : w.ownsRow base e 1 (.slice (some ⟨g, 0, none⟩) ss.length cap) ss.length (ss.map Value.string)) : Reads w (some ⟨g, 0, none⟩) ss := by
  refine .inr ⟨g, 0, rfl, (h.lt g rfl).2, fun i hi => ?_⟩
  rw [Nat.zero_add, h.cellAt i (by omega)]
  simp [List.getElem?_eq_getElem hi]
end Go.Proofs.Ytkbcofgigfnfaab.strs
