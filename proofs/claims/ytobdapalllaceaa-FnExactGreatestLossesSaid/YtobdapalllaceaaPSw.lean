/- Sums over swings: plain definitions and lemmas, no condition. -/
import Derived.Test.YtobdapalllaceaaPop
import Derived.Test.YtobdapalllaceaaMk
namespace Go.Proofs.Ytobdapalllaceaa.psw
open mk bitn pop
set_option linter.unusedVariables false

/-- A voter has a swing in a set. -/
def sw (win : Nat → Bool) (k i : Nat) : Bool := win k && !(win (off k i))
theorem sw_zero {win : Nat → Bool} {k i : Nat} (h : dg k i = 0) : sw win k i = false := by
  unfold sw off
  rw [if_neg (by omega)]
  cases win k <;> rfl
/-- The sum of the worths of the first k sets in which a voter has a swing. -/
def sT (win : Nat → Bool) (wf : Nat → Int) (i : Nat) : Nat → Int
  | 0 => 0
  | k + 1 => sT win wf i k + (if sw win k i = true then wf (pc k) else 0)
theorem sT_hit {win : Nat → Bool} {wf : Nat → Int} {i k : Nat} (h : sw win k i = true) : sT win wf i (k + 1) = sT win wf i k + wf (pc k) := by rw [sT, if_pos h]
theorem sT_miss {win : Nat → Bool} {wf : Nat → Int} {i k : Nat} (h : sw win k i = false) : sT win wf i (k + 1) = sT win wf i k := by
  rw [sT, h]; simp
theorem sT_bd {win : Nat → Bool} {wf : Nat → Int} (hw : ∀ s, 0 ≤ wf s ∧ wf s ≤ 1625702400) (i k : Nat) : 0 ≤ sT win wf i k ∧ sT win wf i k ≤ (1625702400 * k : Nat) := by
  induction k with
  | zero => simp [sT]
  | succ k ih =>
    have := hw (pc k)
    cases h : sw win k i
    · rw [sT_miss h, Nat.mul_succ]; omega
    · rw [sT_hit h, Nat.mul_succ]; omega
/-- The sums, of which those of the first i voters have the set k, too. -/
def mid (win : Nat → Bool) (wf : Nat → Int) (k i : Nat) : Nat → Int := fun j => if j < i then sT win wf j (k + 1) else sT win wf j k
def row (win : Nat → Bool) (wf : Nat → Int) (n k i : Nat) : List Int := mk (mid win wf k i) n
theorem row_length (win : Nat → Bool) (wf : Nat → Int) (n k i : Nat) : (row win wf n k i).length = n := mk_length _ _
theorem row_at (win : Nat → Bool) (wf : Nat → Int) (n k i : Nat) (h : i < n) : (row win wf n k i).getD i 0 = sT win wf i k := by
  unfold row
  rw [mk_getD _ _ _ h]
  unfold mid
  rw [if_neg (Nat.lt_irrefl _)]
theorem row_zero (win : Nat → Bool) (wf : Nat → Int) (n : Nat) : row win wf n 0 0 = List.replicate n 0 := by
  apply List.ext_getElem (by simp [row_length])
  intro i h1 h2
  simp [row, mk, mid, sT]
theorem row_next (win : Nat → Bool) (wf : Nat → Int) (n k : Nat) : row win wf n k n = row win wf n (k + 1) 0 := by
  unfold row
  refine mk_congr fun j hj => ?_
  unfold mid
  rw [if_pos hj, if_neg (Nat.not_lt_zero _)]
theorem row_skip {win : Nat → Bool} {wf : Nat → Int} (n : Nat) {k i : Nat} (h : sw win k i = false) : row win wf n k (i + 1) = row win wf n k i := by
  unfold row
  refine mk_congr fun j hj => ?_
  unfold mid
  by_cases e : j = i
  · subst e
    rw [if_pos (by omega), if_neg (by omega), sT_miss h]
  · by_cases hlt : j < i
    · rw [if_pos (by omega), if_pos hlt]
    · rw [if_neg (by omega), if_neg hlt]
theorem row_set {win : Nat → Bool} {wf : Nat → Int} {n k i : Nat} (hi : i < n) (h : sw win k i = true) : ((row win wf n k i).map (Value.int .i64)).set i (.int .i64 (sT win wf i k + wf (pc k))) = (row win wf n k (i + 1)).map (Value.int .i64) := by
  rw [← sT_hit h]
  apply List.ext_getElem?
  intro j
  rw [List.getElem?_set]
  simp only [List.length_map, row_length, List.getElem?_map]
  by_cases e : i = j
  · subst e
    rw [if_pos rfl, if_pos hi]
    simp [row, mk, hi, mid]
  · rw [if_neg e]
    by_cases hj : j < n
    · simp only [row, mk, List.getElem?_map, List.getElem?_range hj, Option.map_some, mid]
      congr 2
      by_cases hlt : j < i
      · rw [if_pos hlt, if_pos (by omega)]
      · rw [if_neg hlt, if_neg (by omega)]
    · rw [List.getElem?_eq_none (by rw [row_length]; omega), List.getElem?_eq_none (by rw [row_length]; omega)]
theorem row_cell (win : Nat → Bool) (wf : Nat → Int) (n k i : Nat) (h : i < n) : ((row win wf n k i).map (Value.int .i64))[i]? = some (.int .i64 (sT win wf i k)) := by
  have := row_at win wf n k i h
  rw [List.getD_eq_getElem?_getD] at this
  rw [List.getElem?_map, List.getElem?_eq_getElem (by rw [row_length]; exact h)]
  rw [List.getElem?_eq_getElem (by rw [row_length]; exact h)] at this
  simpa using this
/-- Each swing counts once. -/
def one (_ : Nat) : Int := 1
theorem one_bd : ∀ s, 0 ≤ one s ∧ one s ≤ 1625702400 := fun _ => by simp [one]
/-- A swing counts by the orders in which the voter is pivotal with the set. -/
def ord (n s : Nat) : Int := if s ≤ 8 ∧ n ≤ 8 then ((fac (s - 1) : Nat) : Int) * ((fac (n - s) : Nat) : Int) else 0
theorem ord_eq {n s : Nat} (hs : s ≤ 8) (hn : n ≤ 8) : ord n s = ((fac (s - 1) : Nat) : Int) * ((fac (n - s) : Nat) : Int) := if_pos ⟨hs, hn⟩
def facI (z : Int) : Int := ((fac z.toNat : Nat) : Int)
theorem facI_nat (k : Nat) : facI (k : Int) = ((fac k : Nat) : Int) := rfl
theorem facI_bd {z : Int} (h : z ≤ 8) : 1 ≤ facI z ∧ facI z ≤ 40320 := by
  have := fac_le (n := z.toNat) (by omega)
  unfold facI
  omega
theorem ord_eqI {n s : Nat} (hs : s ≤ 8) (hn : n ≤ 8) (h1 : 1 ≤ s) (hsn : s ≤ n) : ord n s = facI ((s : Int) - 1) * facI ((n : Int) - (s : Int)) := by
  rw [ord_eq hs hn]
  unfold facI
  rw [show ((s : Int) - 1).toNat = s - 1 by omega, show ((n : Int) - (s : Int)).toNat = n - s by omega]
theorem ord_bd (n : Nat) : ∀ s, 0 ≤ ord n s ∧ ord n s ≤ 1625702400 := fun s => by
  unfold ord
  split
  · rename_i h
    have h1 := fac_le (n := s - 1) (by omega)
    have h2 := fac_le (n := n - s) (by omega)
    have := pp.mul_bd (x := (fac (s - 1) : Nat)) (y := (fac (n - s) : Nat)) (A := 40320) (B := 40320) (by omega) (by omega) (by omega) (by omega)
    refine ⟨Int.mul_nonneg (by omega) (by omega), by omega⟩
  · omega
end Go.Proofs.Ytobdapalllaceaa.psw
