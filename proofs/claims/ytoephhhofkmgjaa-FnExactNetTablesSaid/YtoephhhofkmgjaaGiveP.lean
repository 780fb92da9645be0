/- What nets give, as plain data: plain lemmas, no condition. -/
import Derived.Test.YtoephhhofkmgjaaNetP
import Derived.Test.YtoephhhofkmgjaaMk
import Derived.Test.YtoephhhofkmgjaaRange
namespace Go.Proofs.Ytoephhhofkmgjaa.givep
open Go.RowKit own pp netp range
set_option linter.unusedVariables false

/-- What a gate gives. -/
def bitv (p : List Int × Int) (xs : List Int) : Int := if side p.1 p.2 xs = 1 then 1 else 0
def gv (l : List (List Int × Int)) (xs : List Int) (k : Nat) : Int := bitv (l.getD k ([], 0)) xs
/-- What a layer gives. -/
def give (l : List (List Int × Int)) (xs : List Int) : List Int := mk.mk (gv l xs) l.length
theorem give_length (l : List (List Int × Int)) (xs : List Int) : (give l xs).length = l.length := mk.mk_length _ _
theorem bitv_cases (p : List Int × Int) (xs : List Int) : bitv p xs = 0 ∨ bitv p xs = 1 := by unfold bitv; split <;> simp
theorem mk_bits (f : Nat → Int) (m : Nat) (h : ∀ k, f k = 0 ∨ f k = 1) : numsB 1 (mk.mk f m) = true := all_true _ 0 _ fun k hk => by
  rw [mk.mk_length] at hk
  rw [mk.mk_getD _ _ _ hk, inB_iff]
  rcases h k with e | e <;> rw [e] <;> omega
/-- All gates of a layer suit what it is given. -/
def Suits (l : List (List Int × Int)) (xs : List Int) : Prop := ∀ k, k < l.length → planeB (l.getD k ([], 0)).1 (l.getD k ([], 0)).2 = true ∧ (l.getD k ([], 0)).1.length = xs.length
theorem suit_small {l : List (List Int × Int)} {xs : List Int} (h : Suits l xs) (hb : numsB 1 xs = true) (k : Nat) (hk : k < l.length) : Small (l.getD k ([], 0)).1 xs := by
  obtain ⟨h1, h2⟩ := h k hk
  exact small_of ((planeB_iff _ _).1 h1).2.2.1 hb (by decide) (by omega)
/-- What the first k layers give. -/
def runTo (ls : List (List (List Int × Int))) (xs : List Int) : Nat → List Int
  | 0 => xs
  | k + 1 => give (ls.getD k []) (runTo ls xs k)
theorem run_succ (ls : List (List (List Int × Int))) (xs : List Int) (k : Nat) : runTo ls xs (k + 1) = give (ls.getD k []) (runTo ls xs k) := rfl
theorem run_length {n : Int} {ls : List (List (List Int × Int))} {xs : List Int} (hx : (xs.length : Int) = n) (k : Nat) : (runTo ls xs k).length = giv n.toNat ls k := by
  cases k with
  | zero => rw [giv_zero]; show xs.length = _; omega
  | succ k => rw [run_succ, give_length, giv_succ]
theorem run_bits {ls : List (List (List Int × Int))} {xs : List Int} (hb : numsB 1 xs = true) (k : Nat) : numsB 1 (runTo ls xs k) = true := by
  cases k with
  | zero => exact hb
  | succ k => exact mk_bits _ _ fun i => bitv_cases _ _
theorem run_suits {n : Int} {ls : List (List (List Int × Int))} {xs : List Int} (h : netB n ls = true) (hx : (xs.length : Int) = n) (k : Nat) (hk : k < ls.length) : Suits (ls.getD k []) (runTo ls xs k) := fun i hi => by
  have := net_fit h k hk i hi
  rw [run_length hx]
  exact this
theorem row_bits {n : Int} {xs : List Int} (h : rowsB' n xs = true) : (xs.length : Int) = n ∧ numsB 1 xs = true := by
  simp only [rowsB', Bool.and_eq_true, decide_eq_true_eq] at h
  refine ⟨h.2, all_true _ 0 _ fun k hk => ?_⟩
  have := numsR_at h.1 k hk
  rw [inB_iff]; omega
def evB (n : Int) (ls : List (List (List Int × Int))) (xs : List Int) : Bool := netB n ls && rowsB' n xs
theorem ev_iff (n : Int) (ls : List (List (List Int × Int))) (xs : List Int) : evB n ls xs = true ↔ netB n ls = true ∧ rowsB' n xs = true := by simp [evB]
end Go.Proofs.Ytoephhhofkmgjaa.givep
