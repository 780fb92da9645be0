/- Merging two voters: plain definitions and lemmas, no condition. -/
import Derived.Test.YtcklehfcpengoaaPVote
import Derived.Test.YtcklehfcpengoaaOwnG
import Derived.Lib.Walk
namespace Go.Proofs.Ytcklehfcpengoaa.mergep
open pp range pv own
set_option linter.unusedVariables false

/-- The weight that stands at k behind the merging of j into i. -/
def itemAt (ws : List Int) (i j k : Nat) : Int := if k = i then ws.getD k 0 + ws.getD j 0 else ws.getD k 0
/-- The first k weights behind the merging of j into i. -/
def mergeTo (ws : List Int) (i j : Nat) : Nat → List Int
  | 0 => []
  | k + 1 => if k = j then mergeTo ws i j k else mergeTo ws i j k ++ [itemAt ws i j k]
theorem merge_skip (ws : List Int) (i j : Nat) : mergeTo ws i j (j + 1) = mergeTo ws i j j := by simp [mergeTo]
theorem merge_succ (ws : List Int) (i j k : Nat) (h : k ≠ j) : mergeTo ws i j (k + 1) = mergeTo ws i j k ++ [itemAt ws i j k] := by simp [mergeTo, h]
theorem merge_length_le (ws : List Int) (i j k : Nat) : (mergeTo ws i j k).length ≤ k := by
  induction k with
  | zero => simp [mergeTo]
  | succ k ih =>
    by_cases h : k = j
    · subst h; rw [merge_skip]; omega
    · rw [merge_succ _ _ _ _ h]; simp; omega
theorem item_eq (ws : List Int) (i j k : Nat) (hi : i < ws.length) (hk : k < ws.length) : (ws.set i (ws.getD i 0 + ws.getD j 0))[k]? = some (itemAt ws i j k) := by
  unfold itemAt
  by_cases e : k = i
  · subst e; rw [List.getElem?_set_self hk, if_pos rfl]
  · rw [List.getElem?_set_ne (fun h => e h.symm), if_neg e, List.getD_eq_getElem?_getD, List.getElem?_eq_getElem hk]; rfl
theorem merge_take (ws : List Int) (i j : Nat) (hi : i < ws.length) (k : Nat) (hk : k ≤ ws.length) : mergeTo ws i j k = ((ws.set i (ws.getD i 0 + ws.getD j 0)).take k).eraseIdx j := by
  induction k with
  | zero => simp [mergeTo]
  | succ k ih =>
    have h1 : ((ws.set i (ws.getD i 0 + ws.getD j 0)).take k).length = k := by simp; omega
    rw [List.take_add_one, item_eq ws i j k hi (by omega), Option.toList_some]
    by_cases h : k = j
    · subst h
      rw [merge_skip, ih (by omega), List.eraseIdx_append_of_length_le (by omega)]
      rw [List.eraseIdx_of_length_le (by omega), h1]; simp
    · rw [merge_succ _ _ _ _ h, ih (by omega)]
      by_cases h2 : j < k
      · rw [List.eraseIdx_append_of_lt_length (by omega)]
      · rw [List.eraseIdx_append_of_length_le (by omega), h1, List.eraseIdx_of_length_le (l := List.take k _) (by omega), List.eraseIdx_of_length_le (by simp; omega)]
theorem merge_all (ws : List Int) (i j : Nat) (hi : i < ws.length) (hj : j < ws.length) : mergeTo ws i j ws.length = (ws.set i (ws.getD i 0 + ws.getD j 0)).take j ++ (ws.set i (ws.getD i 0 + ws.getD j 0)).drop (j + 1) := by
  rw [merge_take _ _ _ hi _ (Nat.le_refl _), List.take_of_length_le (by simp), List.eraseIdx_eq_take_drop_succ]
theorem merge_length (ws : List Int) (i j : Nat) (hi : i < ws.length) (hj : j < ws.length) : (mergeTo ws i j ws.length).length = ws.length - 1 := by
  rw [merge_all _ _ _ hi hj]; simp; omega
end Go.Proofs.Ytcklehfcpengoaa.mergep
