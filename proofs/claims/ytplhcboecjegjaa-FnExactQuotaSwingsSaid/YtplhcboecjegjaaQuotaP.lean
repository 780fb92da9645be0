/- Swings by quotas: plain lemmas, no condition. -/
import Derived.Test.YtplhcboecjegjaaPWins
import Derived.Test.YtplhcboecjegjaaPSw
import Derived.Test.YtplhcboecjegjaaPVote
namespace Go.Proofs.Ytplhcboecjegjaa.quotap
open Go.RowKit own pp nums bitw mk bitn psw pv wins
set_option linter.unusedVariables false
set_option linter.unusedSimpArgs false

theorem dig_off : ∀ z : Fin 8, ∀ c : Fin 256, dg c.val z.val = 1 → ∀ j : Fin 8, c.val / 2 ^ j.val % 2 = off c.val z.val / 2 ^ j.val % 2 + (if j.val = z.val then 1 else 0) := by decide +kernel
theorem dot_off {ws : List Int} (h8 : ws.length ≤ 8) {c z : Nat} (hz : z < ws.length) (hc : c < 256) (h : dg c z = 1) : dot ws (bitsTo c ws.length) = dot ws (bitsTo (off c z) ws.length) + ws.getD z 0 := by
  have key : ∀ k, k ≤ ws.length → dotTo ws (bitsTo c ws.length) k = dotTo ws (bitsTo (off c z) ws.length) k + (if z < k then ws.getD z 0 else 0) := by
    intro k
    induction k with
    | zero => intro _; simp [dotTo_zero]
    | succ k ih =>
      intro hk
      have hd := dig_off ⟨z, by omega⟩ ⟨c, hc⟩ h ⟨k, by omega⟩
      simp only at hd
      rw [dotTo_succ, dotTo_succ, ih (by omega), bits_getD _ _ _ (by omega), bits_getD _ _ _ (by omega), hd]
      by_cases e : k = z
      · subst e
        rw [if_neg (Nat.lt_irrefl _), if_pos rfl, if_pos (by omega)]
        generalize off c k / 2 ^ k % 2 = d
        rw [Int.natCast_add, Int.mul_add]
        generalize ws.getD k 0 * ((d : Nat) : Int) = e
        generalize dotTo ws (bitsTo (off c k) ws.length) k = f
        have h1 : ws.getD k 0 * ((1 : Nat) : Int) = ws.getD k 0 := Int.mul_one _
        rw [h1]
        omega
      · rw [if_neg e]
        by_cases hlt : z < k
        · rw [if_pos hlt, if_pos (by omega)]
          simp only [Nat.add_zero]
          omega
        · rw [if_neg hlt, if_neg (by omega)]
          simp only [Nat.add_zero]
          omega
  have := key ws.length (Nat.le_refl _)
  rw [if_pos hz] at this
  exact this
theorem onn_off : ∀ c : Fin 256, ∀ z : Fin 8, dg c.val z.val = 0 → dg (onn c.val z.val) z.val = 1 ∧ off (onn c.val z.val) z.val = c.val := by decide +kernel
theorem off_map : ∀ n : Fin 9, ∀ i : Fin 8, i.val < n.val → ((List.range (2 ^ n.val)).filter (fun k => dg k i.val == 1)).map (fun k => off k i.val) = (List.range (2 ^ n.val)).filter (fun k => dg k i.val == 0) := by decide +kernel
theorem dot_fit {ws : List Int} (hw : ∀ j, j < ws.length → 0 ≤ ws.getD j 0 ∧ ws.getD j 0 ≤ 20) (c : Nat) : 0 ≤ dot ws (bitsTo c ws.length) ∧ dot ws (bitsTo c ws.length) ≤ sumZ ws := by
  have key : ∀ k, k ≤ ws.length → 0 ≤ dotTo ws (bitsTo c ws.length) k ∧ dotTo ws (bitsTo c ws.length) k ≤ sumTo ws k := by
    intro k
    induction k with
    | zero => intro _; simp [dotTo_zero, sumTo]
    | succ k ih =>
      intro hk
      have h1 := ih (by omega)
      have h2 := hw k (by omega)
      rw [dotTo_succ, bits_getD _ _ _ (by omega), sumTo_succ]
      have h3 : c / 2 ^ k % 2 = 0 ∨ c / 2 ^ k % 2 = 1 := by omega
      rcases h3 with e | e <;> rw [e]
      · have : ws.getD k 0 * ((0 : Nat) : Int) = 0 := Int.mul_zero _
        rw [this]; omega
      · have : ws.getD k 0 * ((1 : Nat) : Int) = ws.getD k 0 := Int.mul_one _
        rw [this]; omega
  exact key ws.length (Nat.le_refl _)
/-- The sum of a set. -/
def sumS (ws : List Int) (k : Nat) : Int := dot ws (bitsTo k ws.length)
/-- A set without a voter loses at the quota j + 1, and wins with m of the voter's weight. -/
def hit (ws : List Int) (i k : Nat) (m : Int) (j : Nat) : Bool := dg k i == 0 && (decide (sumS ws k ≤ j) && decide ((j : Int) < sumS ws k + m))
def cQ (ws : List Int) (i k j : Nat) : Int := (((List.range k).countP (fun k' => hit ws i k' (ws.getD i 0) j) : Nat) : Int)
theorem cQ_succ (ws : List Int) (i k j : Nat) : cQ ws i (k + 1) j = cQ ws i k j + (if hit ws i k (ws.getD i 0) j = true then 1 else 0) := by
  unfold cQ
  rw [List.range_succ, List.countP_append, List.countP_singleton]
  split <;> simp
theorem cQ_bd (ws : List Int) (i k j : Nat) : 0 ≤ cQ ws i k j ∧ cQ ws i k j ≤ k := by
  unfold cQ
  have := List.countP_le_length (p := fun k' => hit ws i k' (ws.getD i 0) j) (l := List.range k)
  rw [List.length_range] at this
  omega
theorem sT_count (win : Nat → Bool) (i k : Nat) : sT win one i k = (((List.range k).countP (fun k' => sw win k' i) : Nat) : Int) := by
  induction k with
  | zero => rfl
  | succ k ih =>
    rw [List.range_succ, List.countP_append, List.countP_singleton]
    cases h : sw win k i
    · rw [sT_miss h, ih]; simp
    · rw [sT_hit h, ih]; simp [one]
theorem quota_eq {ws : List Int} (h8 : ws.length ≤ 8) {i : Nat} (hi : i < ws.length) (j : Nat) : cQ ws i (2 ^ ws.length) j = sT (winB ws ((j : Int) + 1)) one i (2 ^ ws.length) := by
  have hp := (bits8.pow8 h8).2
  rw [sT_count]
  unfold cQ
  congr 1
  have e1 : (List.range (2 ^ ws.length)).countP (fun k' => sw (winB ws ((j : Int) + 1)) k' i) = (List.range (2 ^ ws.length)).countP (fun k => (decide (sumS ws (off k i) ≤ j) && decide ((j : Int) < sumS ws (off k i) + ws.getD i 0)) && (dg k i == 1)) := by
    refine List.countP_congr fun k hk => ?_
    have hk := List.mem_range.1 hk
    have hd := dg_le k i
    by_cases e : dg k i = 1
    · have h2 := dot_off h8 hi (show k < 256 by omega) e
      unfold sw winB sumS
      rw [e, h2]
      simp only [Bool.and_eq_true, Bool.not_eq_true', decide_eq_true_eq, decide_eq_false_iff_not, beq_self_eq_true, and_true]
      omega
    · have e0 : dg k i = 0 := by omega
      rw [sw_zero e0, e0]
      simp
  rw [e1, ← List.countP_filter]
  show _ = List.countP ((fun k => decide (sumS ws k ≤ j) && decide ((j : Int) < sumS ws k + ws.getD i 0)) ∘ (fun k => off k i)) _
  rw [← List.countP_map, off_map ⟨ws.length, by omega⟩ ⟨i, by omega⟩ hi, List.countP_filter]
  refine List.countP_congr fun k _ => ?_
  unfold hit
  rw [Bool.and_comm]
/-- What the program's list holds behind k sets and m of the quotas of the next one. -/
def rowQ (ws : List Int) (i S k : Nat) (m : Int) : List Int := mk (fun j => cQ ws i k j + (if hit ws i k m j = true then 1 else 0)) S
theorem rowQ_length (ws : List Int) (i S k : Nat) (m : Int) : (rowQ ws i S k m).length = S := mk_length _ _
theorem hit_zero (ws : List Int) (i k j : Nat) : hit ws i k 0 j = false := by
  unfold hit
  cases h : (dg k i == 0)
  · rfl
  · rw [Bool.true_and, Bool.and_eq_false_iff, decide_eq_false_iff_not, decide_eq_false_iff_not]; omega
theorem rowQ_zero (ws : List Int) (i S : Nat) : rowQ ws i S 0 0 = List.replicate S 0 := by
  refine List.ext_getElem (by simp [rowQ_length]) fun j h1 h2 => ?_
  simp [rowQ, mk.mk, hit_zero, cQ]
theorem rowQ_next (ws : List Int) (i S k : Nat) : rowQ ws i S k (ws.getD i 0) = rowQ ws i S (k + 1) 0 :=
  mk_congr fun j _ => by rw [cQ_succ, hit_zero]; simp
theorem rowQ_skip {ws : List Int} {i k : Nat} (S : Nat) (h : dg k i = 1) : rowQ ws i S k 0 = rowQ ws i S (k + 1) 0 :=
  mk_congr fun j _ => by
    have e : hit ws i k (ws.getD i 0) j = false := by unfold hit; rw [h]; rfl
    rw [cQ_succ, hit_zero, hit_zero, e]; simp
theorem rowQ_at (ws : List Int) (i S k : Nat) (m : Int) (t : Nat) (ht : t < S) : 0 ≤ (rowQ ws i S k m).getD t 0 ∧ (rowQ ws i S k m).getD t 0 ≤ k + 1 := by
  unfold rowQ
  rw [mk_getD _ _ _ ht]
  have := cQ_bd ws i k t
  split <;> omega
theorem rowQ_set {ws : List Int} {i S k : Nat} {m t : Nat} (h : dg k i = 0) (ht : t < S) (e : (t : Int) = sumS ws k + m) : (rowQ ws i S k m).set t ((rowQ ws i S k m).getD t 0 + 1) = rowQ ws i S k ((m : Int) + 1) := by
  rw [show (rowQ ws i S k m).getD t 0 = cQ ws i k t + (if hit ws i k m t = true then 1 else 0) from mk_getD _ _ _ ht]
  refine List.ext_getElem (by simp [rowQ_length]) fun j h1 h2 => ?_
  have hj : j < S := by simpa [rowQ_length] using h2
  rw [List.getElem_set]
  have g : ∀ (m : Int) (j : Nat) (h : j < (rowQ ws i S k m).length), (rowQ ws i S k m)[j] = cQ ws i k j + (if hit ws i k m j = true then 1 else 0) := fun m j h => by simp [rowQ, mk.mk]
  have hh : ∀ (m : Int) (j : Nat), hit ws i k m j = true ↔ sumS ws k ≤ j ∧ (j : Int) < sumS ws k + m := fun m j => by
    unfold hit
    rw [h]
    simp
  by_cases ej : t = j
  · subst ej
    rw [if_pos rfl, g, if_neg (by rw [hh]; omega), if_pos (by rw [hh]; omega)]
    omega
  · rw [if_neg ej, g, g]
    by_cases e2 : hit ws i k m j = true
    · rw [if_pos e2, if_pos (by rw [hh] at e2 ⊢; omega)]
    · rw [if_neg e2, if_neg (by rw [hh] at e2 ⊢; omega)]
theorem sum_room {ws : List Int} (h8 : ws.length ≤ 8) (hw : ∀ j, j < ws.length → 0 ≤ ws.getD j 0 ∧ ws.getD j 0 ≤ 20) {i k : Nat} (hi : i < ws.length) (hk : k < 2 ^ ws.length) (h : dg k i = 0) : 0 ≤ sumS ws k ∧ sumS ws k + ws.getD i 0 ≤ sumZ ws := by
  have hp := (bits8.pow8 h8).2
  have h1 := onn_off ⟨k, by omega⟩ ⟨i, by omega⟩ h
  simp only at h1
  have h2 := onn_lt h8 hk hi
  have h3 := dot_off h8 hi (show onn k i < 256 by omega) h1.1
  rw [h1.2] at h3
  have h4 := (dot_fit hw (onn k i)).2
  have h5 := (dot_fit hw k).1
  unfold sumS
  omega
/-- The swings of a voter for the quotas 1 .. S. -/
def quotas (ws : List Int) (i S : Nat) : List Int := mk (fun j => sT (winB ws ((j : Int) + 1)) one i (2 ^ ws.length)) S
theorem rowQ_all {ws : List Int} (h8 : ws.length ≤ 8) {i : Nat} (hi : i < ws.length) (S : Nat) : rowQ ws i S (2 ^ ws.length) 0 = quotas ws i S :=
  mk_congr fun j _ => by rw [hit_zero, quota_eq h8 hi]; simp
theorem row_first {win : Nat → Bool} {n i k : Nat} (h : i < n) : (row win one n k 0).getD i 0 = sT win one i k := by
  unfold row
  rw [mk_getD _ _ _ h]
  unfold mid
  rw [if_neg (by omega)]
end Go.Proofs.Ytplhcboecjegjaa.quotap
