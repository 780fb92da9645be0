/- Joining the pieces of a string gives the string back; a strict order: no walk. -/
import Derived.Test.YtocjedheimhfoaaPlainSplit
import Derived.Sort.Walk0
namespace Go.Proofs.Ytocjedheimhfoaa.sjplain
open Go.RowKit pjoin psplit

theorem less_asymm (x y : List UInt8) (h : Op.bytesLess x y = true) : Op.bytesLess y x = false := by
  rw [bytesLess_eq] at *
  have h1 : x < y := of_decide_eq_true h
  exact decide_eq_false (fun h2 => List.lt_irrefl _ (List.lt_trans h1 h2))

theorem extract_list (s : ByteArray) (i k : Nat) : (s.extract i k).data.toList = (s.data.toList.take k).drop i := by
  simp [ByteArray.data_extract, Array.toList_extract, List.drop_take]

theorem has_extract (s : ByteArray) (b : UInt8) (i k : Nat) (h : ∀ j, i ≤ j → j < k → s.data.toList[j]? ≠ some b) : has (s.extract i k).data.toList b = false := by
  have e := extract_list s i k
  unfold has
  rw [e, ← Bool.not_eq_true, List.contains_iff_mem]
  intro hm
  obtain ⟨j, hj⟩ := List.mem_iff_getElem?.1 hm
  rw [List.getElem?_drop, List.getElem?_take] at hj
  split at hj
  · exact h (i + j) (by omega) (by omega) hj
  · cases hj

/-- Behind the last separator there is none. -/
theorem none_since (s : ByteArray) (b : UInt8) (k : Nat) : ∀ j, (st s b k).2 ≤ j → j < k → s.data.toList[j]? ≠ some b := by
  induction k with
  | zero => intro j _ h; omega
  | succ k ih =>
    intro j h1 h2
    rw [st] at h1
    split at h1
    · simp at h1; omega
    · rename_i hn
      by_cases e : j = k
      · subst e; exact hn
      · exact ih j h1 (by omega)

theorem clean_st (s : ByteArray) (b : UInt8) (k : Nat) : clean (st s b k).1 b = true := by
  induction k with
  | zero => rfl
  | succ k ih =>
    rw [st]
    split
    · unfold clean at *
      rw [List.all_append, ih, List.all_cons, has_extract s b _ k (none_since s b k)]
      rfl
    · exact ih

theorem clean_pieces (s : ByteArray) (b : UInt8) : clean (pieces s b) b = true := by
  have := clean_st s b s.size
  unfold clean pieces at *
  rw [List.all_append, this, List.all_cons, has_extract s b _ s.size (none_since s b s.size)]
  rfl

theorem tot_append (x y : List ByteArray) : strs.tot (x ++ y) = strs.tot x + strs.tot y := by
  simp [strs.tot]

theorem tot_st (s : ByteArray) (b : UInt8) (k : Nat) (hk : k ≤ s.size) : strs.tot (st s b k).1 + (st s b k).1.length = (st s b k).2 := by
  induction k with
  | zero => rfl
  | succ k ih =>
    have h := ih (by omega)
    have hle := from_le s b k
    rw [st]
    split
    · rw [tot_append, List.length_append]
      simp only [strs.tot, List.map_cons, List.map_nil, List.sum_cons, List.sum_nil, List.length_cons, List.length_nil, ByteArray.size_extract] at *
      omega
    · exact h

theorem tot_pieces (s : ByteArray) (b : UInt8) : strs.tot (pieces s b) + (pieces s b).length = s.size + 1 := by
  have h := tot_st s b s.size (Nat.le_refl _)
  have hle := from_le s b s.size
  unfold pieces
  rw [tot_append, List.length_append]
  simp only [strs.tot, List.map_cons, List.map_nil, List.sum_cons, List.sum_nil, List.length_cons, List.length_nil, ByteArray.size_extract] at *
  omega

theorem ok_pieces (s : ByteArray) (b : UInt8) (h : s.size ≤ 4000) : ok (pieces s b) b = true := by
  have := tot_pieces s b
  simp [ok, clean_pieces]
  omega

/-- Joined with a separator behind each. -/
def each (ss : List ByteArray) (b : UInt8) : List UInt8 := (ss.map fun s => s.data.toList ++ [b]).flatten

theorem jn_each (ss : List ByteArray) (x : ByteArray) (b : UInt8) : jn (ss ++ [x]) [b] = each ss b ++ x.data.toList := by
  induction ss with
  | nil => simp [jn, each, Lib.join_one]
  | cons y r ih =>
    unfold jn each at *
    cases r with
    | nil =>
      simp [Lib.join_cons, Lib.joinTail]
    | cons z q =>
      rw [List.cons_append, List.map_cons, List.cons_append, List.map_cons, Lib.join_cons]
      rw [List.cons_append, List.map_cons, Lib.join_cons] at ih
      simp only [Lib.joinTail, List.map_cons, List.flatten_cons, List.append_assoc] at *
      rw [← ih]

theorem each_st (s : ByteArray) (b : UInt8) (k : Nat) (hk : k ≤ s.size) : each (st s b k).1 b = s.data.toList.take (st s b k).2 := by
  induction k with
  | zero => simp [each, st]
  | succ k ih =>
    have h := ih (by omega)
    have hle := from_le s b k
    rw [st]
    split
    · rename_i hh
      have e := extract_list s (st s b k).2 k
      have hk' : k < s.data.toList.length := by simp; omega
      have hb : s.data.toList[k] = b := by
        rw [List.getElem?_eq_getElem hk'] at hh
        exact Option.some.inj hh
      unfold each at *
      simp only [List.map_append, List.flatten_append, List.map_cons, List.map_nil, List.flatten_cons, List.flatten_nil, List.append_nil]
      rw [h, e, List.take_succ_eq_append_getElem hk', hb, ← List.append_assoc]
      congr 1
      rw [show s.data.toList.take (st s b k).2 = (s.data.toList.take k).take (st s b k).2 by rw [List.take_take, Nat.min_eq_left hle]]
      exact List.take_append_drop _ _
    · exact h

theorem join_pieces (s : ByteArray) (b : UInt8) : jn (pieces s b) [b] = s.data.toList := by
  unfold pieces
  rw [jn_each, each_st s b s.size (Nat.le_refl _)]
  have e : (s.extract (st s b s.size).2 s.size).data.toList = s.data.toList.drop (st s b s.size).2 := by
    have hl : s.data.toList.length = s.size := by simp
    rw [extract_list, List.take_of_length_le (by omega)]
  rw [e, List.take_append_drop]
end Go.Proofs.Ytocjedheimhfoaa.sjplain
