/- All sets of some places in order: plain; no condition. -/
import Derived.Test.YtncidajjeccbkaaBitsL
import Derived.Test.YtncidajjeccbkaaSetOrd
namespace Go.Proofs.Ytncidajjeccbkaa.setsp
open Go.RowKit own pp bitn setcmp setord edge
set_option linter.unusedVariables false
set_option linter.unusedSimpArgs false

/-- The set that a code tells: the first places have the greatest digits, and 0 tells that they are in it. -/
def codeSet (m code : Nat) : List Int := pwh.placesTo (fun i => dg code (m - 1 - i) == 0) m
def someS (m many code : Nat) : List (List Int) := ((List.range code).map (codeSet m)).filter fun s => s.length == many
def sevTo (m many : Nat) : List (List Int) := (List.range many).flatMap fun j => someS m j (2 ^ m)
/-- All sets, by their lengths. -/
def sevS (m : Nat) : List (List Int) := sevTo m (m + 1)
def allS (m : Nat) : List (List Int) := putsL ((List.range (2 ^ m)).map (bitsL m))
def num (s : List Int) : Nat := s.foldl (fun acc z => acc + 2 ^ z.toNat) 0
def okc : List (List Int) → Bool
  | [] => true
  | [_] => true
  | x :: y :: t => befB x y && okc (y :: t)
def okS (m : Nat) : Bool := okc (sevS m) && ((sevS m).map num).isPerm (List.range (2 ^ m)) && (sevS m).all (fun s => bitsL m (num s) == s)
theorem ok_all : ∀ m : Fin 9, okS m.val = true := by decide +kernel
theorem okc_asc : ∀ (t : List (List Int)) (x : List Int), okc (x :: t) = true → (∀ y ∈ t, befB x y = true) ∧ Asc (x :: t)
  | [], x, _ => ⟨fun y hy => (List.not_mem_nil hy).elim, List.pairwise_singleton _ _⟩
  | y :: t, x, h => by
    rw [okc, Bool.and_eq_true] at h
    obtain ⟨h1, h2⟩ := okc_asc t y h.2
    have h3 : ∀ z ∈ y :: t, befB x z = true := by
      intro z hz
      rcases List.mem_cons.1 hz with rfl | hz
      · exact h.1
      · exact bef_trans h.1 (h1 z hz)
    exact ⟨h3, List.pairwise_cons.2 ⟨fun z hz => bef_asym (h3 z hz), h2⟩⟩
theorem sev_all {m : Nat} (h8 : m ≤ 8) : sevS m = allS m := by
  have h := ok_all ⟨m, by omega⟩
  unfold okS at h
  rw [Bool.and_eq_true, Bool.and_eq_true] at h
  obtain ⟨⟨h1, h2⟩, h3⟩ := h
  refine puts_uniq ?_ ?_
  · have e : sevS m = ((sevS m).map num).map (bitsL m) := by
      rw [List.map_map]
      refine (List.map_id (sevS m)).symm.trans (List.map_congr_left fun s hs => ?_)
      have := List.all_eq_true.1 h3 s hs
      exact (beq_iff_eq.1 this).symm
    rw [e]
    exact (List.isPerm_iff.1 h2).map _
  · cases hl : sevS m with
    | nil => exact List.Pairwise.nil
    | cons x t => rw [hl] at h1; exact (okc_asc t x h1).2
theorem some_zero (m many : Nat) : someS m many 0 = [] := rfl
theorem some_hit {m many code : Nat} (h : (codeSet m code).length = many) : someS m many (code + 1) = someS m many code ++ [codeSet m code] := by
  unfold someS
  rw [List.range_succ, List.map_append, List.filter_append]
  simp [h]
theorem some_miss {m many code : Nat} (h : (codeSet m code).length ≠ many) : someS m many (code + 1) = someS m many code := by
  unfold someS
  rw [List.range_succ, List.map_append, List.filter_append]
  simp [h]
theorem sevTo_succ (m many : Nat) : sevTo m (many + 1) = sevTo m many ++ someS m many (2 ^ m) := by
  unfold sevTo
  rw [List.range_succ, List.flatMap_append]
  simp
theorem some_length (m many code : Nat) : (someS m many code).length ≤ code := by
  unfold someS
  have := List.length_filter_le (fun s : List Int => s.length == many) ((List.range code).map (codeSet m))
  simpa using this
theorem sevTo_length (m many : Nat) : (sevTo m many).length ≤ many * 2 ^ m := by
  induction many with
  | zero => simp [sevTo]
  | succ k ih =>
    rw [sevTo_succ, List.length_append, Nat.succ_mul]
    have := some_length m k (2 ^ m)
    omega
theorem code_len (m code : Nat) : (codeSet m code).length ≤ m := pwh.placesTo_length _ _
theorem all_mem {m : Nat} {s : List Int} (h : s ∈ allS m) : ∃ k, k < 2 ^ m ∧ s = bitsL m k := by
  have := (puts_perm _).mem_iff.1 h
  obtain ⟨k, hk, rfl⟩ := List.mem_map.1 this
  exact ⟨k, List.mem_range.1 hk, rfl⟩
theorem all_length (m : Nat) : (allS m).length = 2 ^ m := by
  unfold allS
  rw [(puts_perm _).length_eq, List.length_map, List.length_range]
end Go.Proofs.Ytncidajjeccbkaa.setsp
