/- Nets as plain data: when they are valid, what their layers are given; plain lemmas, no condition. -/
import Derived.Test.YtkbcofgigfnfaabNetL
namespace Go.Proofs.Ytkbcofgigfnfaab.netp
open Go.RowKit own pp
set_option linter.unusedVariables false

/-- How many numbers a layer is given. -/
def giv (n : Nat) (ls : List (List (List Int × Int))) (i : Nat) : Nat := if i = 0 then n else (ls.getD (i - 1) []).length
theorem giv_zero (n : Nat) (ls : List (List (List Int × Int))) : giv n ls 0 = n := rfl
theorem giv_succ (n : Nat) (ls : List (List (List Int × Int))) (i : Nat) : giv n ls (i + 1) = (ls.getD i []).length := rfl
def gateB (g : Nat) (p : List Int × Int) : Bool := planeB p.1 p.2 && decide (p.1.length = g)
def layB (g : Nat) (l : List (List Int × Int)) : Bool := decide (1 ≤ l.length) && decide (l.length ≤ 4) && (List.range l.length).all fun k => gateB g (l.getD k ([], 0))
def netB (n : Int) (ls : List (List (List Int × Int))) : Bool := decide (1 ≤ n) && decide (n ≤ 4) && decide (1 ≤ ls.length) && decide (ls.length ≤ 6) && (List.range ls.length).all fun i => layB (giv n.toNat ls i) (ls.getD i [])
theorem gateB_iff (g : Nat) (p : List Int × Int) : gateB g p = true ↔ planeB p.1 p.2 = true ∧ p.1.length = g := by simp [gateB]
theorem layB_iff (g : Nat) (l : List (List Int × Int)) : layB g l = true ↔ 1 ≤ l.length ∧ l.length ≤ 4 ∧ ∀ k, k < l.length → gateB g (l.getD k ([], 0)) = true := by simp [layB, and_assoc]
theorem netB_iff (n : Int) (ls : List (List (List Int × Int))) : netB n ls = true ↔ 1 ≤ n ∧ n ≤ 4 ∧ 1 ≤ ls.length ∧ ls.length ≤ 6 ∧ ∀ i, i < ls.length → layB (giv n.toNat ls i) (ls.getD i []) = true := by simp [netB, and_assoc]
theorem lay_no {g : Nat} {l : List (List Int × Int)} (k : Nat) (hk : k < l.length) (h : gateB g (l.getD k ([], 0)) = false) : layB g l = false := by
  cases e : layB g l
  · rfl
  · have := ((layB_iff _ _).1 e).2.2 k hk
    rw [h] at this; cases this
theorem net_no {n : Int} {ls : List (List (List Int × Int))} (i : Nat) (hi : i < ls.length) (h : layB (giv n.toNat ls i) (ls.getD i []) = false) : netB n ls = false := by
  cases e : netB n ls
  · rfl
  · have := ((netB_iff _ _).1 e).2.2.2.2 i hi
    rw [h] at this; cases this
theorem net_len {n : Int} {ls : List (List (List Int × Int))} (h : netB n ls = true) : 1 ≤ ls.length ∧ ls.length ≤ 6 := ⟨((netB_iff _ _).1 h).2.2.1, ((netB_iff _ _).1 h).2.2.2.1⟩
theorem net_lay {n : Int} {ls : List (List (List Int × Int))} (h : netB n ls = true) (i : Nat) (hi : i < ls.length) : 1 ≤ (ls.getD i []).length ∧ (ls.getD i []).length ≤ 4 :=
  ⟨((layB_iff _ _).1 (((netB_iff _ _).1 h).2.2.2.2 i hi)).1, ((layB_iff _ _).1 (((netB_iff _ _).1 h).2.2.2.2 i hi)).2.1⟩
theorem net_gate {n : Int} {ls : List (List (List Int × Int))} (h : netB n ls = true) (i : Nat) (hi : i < ls.length) (k : Nat) (hk : k < (ls.getD i []).length) : gateB (giv n.toNat ls i) ((ls.getD i []).getD k ([], 0)) = true :=
  ((layB_iff _ _).1 (((netB_iff _ _).1 h).2.2.2.2 i hi)).2.2 k hk
theorem net_giv {n : Int} {ls : List (List (List Int × Int))} (h : netB n ls = true) (i : Nat) (hi : i ≤ ls.length) : 1 ≤ giv n.toNat ls i ∧ giv n.toNat ls i ≤ 4 := by
  have h1 := (netB_iff _ _).1 h
  cases i with
  | zero => rw [giv_zero]; omega
  | succ i => rw [giv_succ]; exact net_lay h i (by omega)
theorem net_fit {n : Int} {ls : List (List (List Int × Int))} (h : netB n ls = true) (i : Nat) (hi : i < ls.length) (k : Nat) (hk : k < (ls.getD i []).length) :
    planeB ((ls.getD i []).getD k ([], 0)).1 ((ls.getD i []).getD k ([], 0)).2 = true ∧ ((ls.getD i []).getD k ([], 0)).1.length = giv n.toNat ls i := (gateB_iff _ _).1 (net_gate h i hi k hk)
end Go.Proofs.Ytkbcofgigfnfaab.netp
