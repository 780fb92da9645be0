/- Doubling and boosting, plain. -/
import Derived.Test.YthohnnobahcdpaaBestP
import Derived.Test.YthohnnobahcdpaaEven
import Derived.Test.YthohnnobahcdpaaMisOf
namespace Go.Proofs.Ythohnnobahcdpaa.boostp
open Go.RowKit own pp nums range samplesv bndp stmp margin bestp hefts wm both sidesof mistakes even
set_option linter.unusedVariables false
set_option linter.unusedSimpArgs false

def dbl (hs : List Int) (k : Nat) : List Int := hs.set k (2 * hs.getD k 0)
theorem dbl_length (hs : List Int) (k : Nat) : (dbl hs k).length = hs.length := by simp [dbl]
def dblTo (hs ms : List Int) : Nat → List Int
  | 0 => hs
  | k + 1 => dbl (dblTo hs ms k) (ms.getD k 0).toNat
theorem dblTo_length (hs ms : List Int) (k : Nat) : (dblTo hs ms k).length = hs.length := by
  induction k with
  | zero => rfl
  | succ k ih => unfold dblTo; rw [dbl_length, ih]
theorem dbl_at (hs : List Int) (k i : Nat) : (dbl hs k).getD i 0 = if i = k then (if k < hs.length then 2 * hs.getD k 0 else 0) else hs.getD i 0 := by
  unfold dbl
  rw [List.getD_eq_getElem?_getD, List.getElem?_set]
  by_cases h : k = i
  · subst h
    by_cases hl : k < hs.length
    · simp [hl]
    · simp [hl]
  · rw [if_neg h, if_neg (fun e => h e.symm), List.getD_eq_getElem?_getD]
/-- The places of mistakes ascend: each is doubled once. -/
def upTo (ms : List Int) : Prop := (∀ k, k < ms.length → 0 ≤ ms.getD k 0) ∧ ∀ j k, j < k → k < ms.length → ms.getD j 0 < ms.getD k 0
theorem dblTo_bd {hs ms : List Int} {B : Int} (hB : ∀ i, 0 ≤ hs.getD i 0 ∧ hs.getD i 0 ≤ B) (hm : upTo ms) (k : Nat) (hk : k ≤ ms.length) :
    (∀ i, 0 ≤ (dblTo hs ms k).getD i 0 ∧ (dblTo hs ms k).getD i 0 ≤ 2 * B) ∧ ∀ j, k ≤ j → j < ms.length → (dblTo hs ms k).getD (ms.getD j 0).toNat 0 ≤ B := by
  induction k with
  | zero => exact ⟨fun i => by have := hB i; show 0 ≤ hs.getD i 0 ∧ hs.getD i 0 ≤ 2 * B; omega, fun j _ _ => (hB _).2⟩
  | succ k ih =>
    obtain ⟨h1, h2⟩ := ih (by omega)
    refine ⟨fun i => ?_, fun j hj hl => ?_⟩
    · unfold dblTo
      rw [dbl_at]
      have h3 := h2 k (Nat.le_refl _) (by omega)
      have h4 := h1 (ms.getD k 0).toNat
      have h5 := h1 i
      have h6 := hB 0
      split
      · split
        · omega
        · omega
      · exact h5
    · unfold dblTo
      rw [dbl_at]
      have h3 := hm.2 k j (by omega) hl
      have h4 := hm.1 k (by omega)
      have h5 := hm.1 j hl
      rw [if_neg (by omega)]
      exact h2 j (by omega) hl
theorem mis_up (rows : List (List Int)) (zs ws : List Int) (b : Int) (n : Nat) : upTo (misTo rows zs ws b n) ∧ ∀ k, k < (misTo rows zs ws b n).length → (misTo rows zs ws b n).getD k 0 < n := by
  induction n with
  | zero => exact ⟨⟨fun k h => absurd h (by simp [misTo]), fun j k _ h => absurd h (by simp [misTo])⟩, fun k h => absurd h (by simp [misTo])⟩
  | succ n ih =>
    obtain ⟨⟨h1, h2⟩, h3⟩ := ih
    cases hM : isM rows zs ws b n
    · rw [misTo_miss _ _ _ _ _ hM]
      exact ⟨⟨h1, h2⟩, fun k hk => by have := h3 k hk; omega⟩
    · rw [misTo_hit _ _ _ _ _ hM]
      generalize misTo rows zs ws b n = ms at *
      have ha : ∀ k, k < ms.length → (ms ++ [(n : Int)]).getD k 0 = ms.getD k 0 := fun k hk => by
        rw [List.getD_eq_getElem?_getD, List.getElem?_append_left hk, List.getD_eq_getElem?_getD]
      have hl : (ms ++ [(n : Int)]).getD ms.length 0 = n := by
        rw [List.getD_eq_getElem?_getD, List.getElem?_append_right (Nat.le_refl _)]
        simp
      have hlen : (ms ++ [(n : Int)]).length = ms.length + 1 := by simp
      refine ⟨⟨fun k hk => ?_, fun j k hj hk => ?_⟩, fun k hk => ?_⟩
      · rw [hlen] at hk
        by_cases hk2 : k < ms.length
        · rw [ha k hk2]; exact h1 k hk2
        · obtain rfl : k = ms.length := by omega
          rw [hl]; omega
      · rw [hlen] at hk
        rw [ha j (by omega)]
        by_cases hk2 : k < ms.length
        · rw [ha k hk2]; exact h2 j k hj hk2
        · obtain rfl : k = ms.length := by omega
          rw [hl]; exact h3 j (by omega)
      · rw [hlen] at hk
        by_cases hk2 : k < ms.length
        · rw [ha k hk2]; have := h3 k hk2; omega
        · obtain rfl : k = ms.length := by omega
          rw [hl]; omega
/-- The stumps and the hefts after so many rounds. -/
def msOf (rows : List (List Int)) (zs hs : List Int) : List Int := misTo rows zs (bestX rows zs hs).1 (bestX rows zs hs).2 rows.length
def nextH (rows : List (List Int)) (zs hs : List Int) : List Int := dblTo hs (msOf rows zs hs) (msOf rows zs hs).length
def hfTo (rows : List (List Int)) (zs : List Int) : Nat → List Int
  | 0 => evenL 1 rows.length
  | r + 1 => nextH rows zs (hfTo rows zs r)
def bsTo (rows : List (List Int)) (zs : List Int) : Nat → List (List Int × Int)
  | 0 => []
  | r + 1 => bsTo rows zs r ++ [bestX rows zs (hfTo rows zs r)]
theorem bsTo_length (rows : List (List Int)) (zs : List Int) (r : Nat) : (bsTo rows zs r).length = r := by
  induction r with
  | zero => rfl
  | succ r ih => unfold bsTo; simp [ih]
theorem hfTo_length (rows : List (List Int)) (zs : List Int) (r : Nat) : (hfTo rows zs r).length = rows.length := by
  induction r with
  | zero => exact even_length _ _
  | succ r ih => unfold hfTo nextH; rw [dblTo_length, ih]
theorem hfTo_bd (rows : List (List Int)) (zs : List Int) (r : Nat) : ∀ i, 0 ≤ (hfTo rows zs r).getD i 0 ∧ (hfTo rows zs r).getD i 0 ≤ 2 ^ r := by
  induction r with
  | zero =>
    intro i
    show 0 ≤ (evenL 1 rows.length).getD i 0 ∧ (evenL 1 rows.length).getD i 0 ≤ 2 ^ 0
    unfold evenL
    rw [List.getD_eq_getElem?_getD, List.getElem?_replicate]
    split <;> simp
  | succ r ih =>
    intro i
    have h := (dblTo_bd ih (mis_up rows zs (bestX rows zs (hfTo rows zs r)).1 (bestX rows zs (hfTo rows zs r)).2 rows.length).1 (msOf rows zs (hfTo rows zs r)).length (Nat.le_refl _)).1 i
    rw [Int.pow_succ, Int.mul_comm]
    exact h
theorem hf_hefts (rows : List (List Int)) (zs : List Int) (r : Nat) (h : r ≤ 8) : heftsB rows (hfTo rows zs r) = true := by
  refine (heftsB_iff _ _).2 ⟨?_, hfTo_length _ _ _⟩
  refine List.all_eq_true.2 fun x hx => (inR_iff _ _ _).2 ?_
  obtain ⟨i, hi, rfl⟩ := List.getElem_of_mem hx
  have h0 : (hfTo rows zs r).getD i 0 = (hfTo rows zs r)[i] := by rw [List.getD_eq_getElem?_getD, List.getElem?_eq_getElem hi]; rfl
  rw [← h0]
  have h1 := hfTo_bd rows zs r i
  have h2 : (2 : Int) ^ r ≤ 2 ^ 8 := by
    exact_mod_cast Nat.pow_le_pow_right (by omega) h
  have h3 : (2 : Int) ^ 8 = 256 := by decide
  omega
end Go.Proofs.Ythohnnobahcdpaa.boostp
