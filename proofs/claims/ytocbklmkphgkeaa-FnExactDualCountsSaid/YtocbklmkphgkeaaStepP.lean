/- A step of a perceptron as plain data: plain definitions and lemmas, no condition. -/
import Derived.Test.YtocbklmkphgkeaaFill
import Derived.Test.YtocbklmkphgkeaaPlainPlane
namespace Go.Proofs.Ytocbklmkphgkeaa.step
open Go.RowKit own pp fill
set_option linter.unusedVariables false

/-- A list to which another one was added so many times, place by place. -/
def addAt (ws xs : List Int) (t : Int) (i : Nat) : Int := ws.getD i 0 + t * xs.getD i 0
def added (ws xs : List Int) (t : Int) : List Int := (List.range ws.length).map (addAt ws xs t)
theorem added_length (ws xs : List Int) (t : Int) : (added ws xs t).length = ws.length := by simp [added]
theorem added_getD (ws xs : List Int) (t : Int) (i : Nat) (h : i < ws.length) : (added ws xs t).getD i 0 = addAt ws xs t i := by
  rw [List.getD_eq_getElem?_getD]; simp [added, h]
theorem added_zero (ws xs : List Int) : added ws xs 0 = ws := by
  apply List.ext_getElem
  · exact added_length _ _ _
  · intro i h1 h2
    simp only [added, List.getElem_map, List.getElem_range, addAt, Int.zero_mul, Int.add_zero]
    rw [List.getD_eq_getElem?_getD, List.getElem?_eq_getElem h2]; rfl
theorem pf_added (ws xs : List Int) (t : Int) : pf (addAt ws xs t) ws ws.length = added ws xs t := pf_all _ _

/-- What a list, a point and a number of times must be for sums without overflow. -/
structure Fit (ws xs : List Int) (b t : Int) : Prop where
  len : xs.length = ws.length
  pos : 1 ≤ ws.length
  le : ws.length ≤ 4
  wbd : numsB 1000000 ws = true
  xbd : numsB 9 xs = true
  bbd : -1000000 ≤ b ∧ b ≤ 1000000
  tbd : -1000 ≤ t ∧ t ≤ 1000
theorem Fit.at {ws xs : List Int} {b t : Int} (h : Fit ws xs b t) (k : Nat) (hk : k < ws.length) : (-9000 ≤ t * xs.getD k 0 ∧ t * xs.getD k 0 ≤ 9000) ∧ (-1000000 ≤ ws.getD k 0 ∧ ws.getD k 0 ≤ 1000000) := by
  have h1 := numsB_at h.wbd k hk
  have h2 := numsB_at h.xbd k (by rw [h.len]; exact hk)
  have := mul_bd (A := 1000) (B := 9) h.tbd.1 h.tbd.2 h2.1 h2.2
  omega

/-- The plane behind a step. -/
def stW (ws : List Int) (b : Int) (xs : List Int) (y : Int) : List Int := if side ws b xs = y then ws else added ws xs y
def stV (ws : List Int) (b : Int) (xs : List Int) (y : Int) : Int := if side ws b xs = y then b else b - y
def askB (ws : List Int) (b : Int) (xs : List Int) (y : Int) : Bool := oneB ws b xs && labelB y
def stB (ws : List Int) (b : Int) (xs : List Int) (y : Int) : Bool := askB ws b xs y && planeB (stW ws b xs y) (stV ws b xs y)
theorem stW_length (ws : List Int) (b : Int) (xs : List Int) (y : Int) : (stW ws b xs y).length = ws.length := by
  unfold stW; split
  · rfl
  · exact added_length _ _ _
theorem numsB_le {m n : Int} {zs : List Int} (h : numsB m zs = true) (hmn : m ≤ n) : numsB n zs = true := by
  apply all_true _ 0
  intro k hk
  have := numsB_at h k hk
  exact (inB_iff _ _).2 (by omega)
theorem ask_fit {ws : List Int} {b : Int} {xs : List Int} {y : Int} (h : askB ws b xs y = true) (t : Int) (ht : t = y ∨ t = 0) : Fit ws xs b t := by
  simp only [askB, Bool.and_eq_true] at h
  obtain ⟨h1, h2⟩ := h
  obtain ⟨p1, p2, p3⟩ := (oneB_iff _ _ _).1 h1
  obtain ⟨q1, q2, q3, q4⟩ := (planeB_iff _ _).1 p1
  have := (inB_iff _ _).1 q4
  have hy := (labelB_iff _).1 h2
  exact ⟨p3, q1, q2, numsB_le q3 (by decide), ((pointB_iff _).1 p2).2.2, by omega, by rcases ht with rfl | rfl <;> omega⟩
end Go.Proofs.Ytocbklmkphgkeaa.step
