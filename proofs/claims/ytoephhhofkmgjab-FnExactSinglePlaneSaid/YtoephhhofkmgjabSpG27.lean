/- Several texts in one. -/
import Derived.Lib.Hide
import Derived.LoopIn
import Derived.LoopNIn
import Derived.Maps.AppendAt
import Derived.OwnWalkIn
import Derived.RangeFuncBound
import Derived.RangeFuncBox
import Derived.RangeFuncCalls
import Derived.RangeFuncLeaves
import Derived.RangeFuncNested
import Derived.Shelf.Abstract
import Derived.TacticsInMore
import Derived.WalkKit
import Derived.Test.YtoephhhofkmgjabRangeP
import Derived.Test.YtoephhhofkmgjabSpG4
namespace Go.Proofs.Ytoephhhofkmgjab.bw
open Go Go.RowKit Go.Shelf own rangep
set_option linter.unusedVariables false
attribute [local go_sem] Oper.semAt_some

def encs (x : Nat × Int) : Array Value := #[.int .i64 (x.1 : Int), .int .i64 x.2]
/-- The box holds the list, and the list can be read. -/
def Rd (Bn : Nat) (pa : Option Addr) (k c : Nat) (W : World) : Prop := W.cell? ⟨Bn, 0, none⟩ = some (.slice pa k c) ∧ ∃ zs : List Int, zs.length = k ∧ ints.Reads .i64 W pa zs
def Px (k : Nat) (pre : List (Nat × Int)) (x : Nat × Int) (_ : World) : Prop := pre.length + x.1 + 1 = k

set_option maxRecDepth 100000 in
set_option maxHeartbeats 2000000 in
theorem closure_in (n : Nat) (hn : 1 ≤ n) (l Bn : Nat) (pa : Option Addr) (k c : Nat) (hk : k ≤ 1048576) (J Jx : List (Nat × Int) → World → Prop)
    (hY : ∀ pre x W, J pre W → Px k pre x W → YieldAt Fence.wide (n - 1) Try.prog l (encs x) W fun e W' =>
      (e = .returned (.bool true) ∧ J (pre ++ [x]) W' ∧ (Rd Bn pa k c W → Rd Bn pa k c W')) ∨ (e = .returned (.bool false) ∧ Jx (pre ++ [x]) W'))
    (W : World) (hR : Rd Bn pa k c W) (h0 : J [] W) :
    CallsIn Fence.wide n Try.prog 146 #[.func (.yield l) #[] #[], .pointer (some ⟨Bn, 0, none⟩)] W fun e W' => (∃ v, e = .returned v) ∧
      ((∃ ys : List (Nat × Int), ys.length = k ∧ J ys W') ∨ (∃ pre, True ∧ Jx pre W')) := by
  refine callsIn_of_wp Try.func146 rfl trivial ?_ rfl
  simp only [Try.ntmps146, List.size_toArray, List.length_cons, List.length_nil, Nat.reduceAdd, Nat.reduceSub, Array.replicate_succ, Array.replicate_zero, List.push_toArray, List.append_toArray, List.nil_append, List.cons_append]
  have HRd := Lib.hid hR
  have hc := hR.1
  clear hR
  have i0 : (k : Int) - 1 ≤ 1048576 := by omega
  have i00 : (0 : Int) ≤ (k : Int) := by omega
  gi_wp2
  clear hc
  gi_loopw [3] (fun i wr => ∃ (r : Nat) (pre : List (Nat × Int)), r ≤ k ∧ i = .int .i64 ((r : Int) - 1) ∧ Hid (pre.length + r = k) ∧ J pre wr ∧ Hid (Rd Bn pa k c wr)) (fun i _ => (intOf i + 1).toNat)
  case atStart => exact ⟨k, [], Nat.le_refl _, rfl, Lib.hid (by simp), h0, HRd⟩
  case round =>
    obtain ⟨r, pre, hr, rfl, hpre, hJ, hB⟩ := hrel
    have HJ := Lib.hid hJ
    clear hJ HRd
    by_cases hlt : 0 < r
    · obtain ⟨u, rfl⟩ : ∃ u, r = u + 1 := ⟨r - 1, by omega⟩
      obtain ⟨hc, zs, hzl, hrz⟩ := hB.out
      obtain ⟨b, off, hpe, hb, hck⟩ := hrz.at (k := u) (by omega)
      subst hpe
      generalize zs.getD u 0 = z at hck
      clear hzl hrz
      have i1 : (0 : Int) ≤ (u : Int) := by omega
      have i2 : (u : Int) < (k : Int) := by omega
      have i3 : (u : Int) ≤ 1048576 := by omega
      rw [show (((u + 1 : Nat) : Int)) - 1 = (u : Int) by omega]
      obtain ⟨fn, tmps, assign, body, hy, hRr⟩ := hY pre (u, z) _ HJ.out (by have := hpre.out; show pre.length + u + 1 = k; omega)
      have HRR := Lib.hid hRr
      have HL := Lib.hid (show (pre ++ [(u, z)]).length + u = k by have := hpre.out; simp; omega)
      clear hRr
      dsimp only [encs] at hy
      gi_wp2
      refine HRR.out.mono ?_
      rintro e W3 (⟨rfl, hJ3, hk3⟩ | ⟨rfl, hJx3⟩)
      · have HB3 := Lib.hid (hk3 hB.out)
        have HJ3 := Lib.hid hJ3
        clear hk3 hJ3
        gi_wp2
        go_roundw
        case rel => exact ⟨u, pre ++ [(u, z)], by omega, rfl, HL, HJ3.out, HB3⟩
        case measure => simp [intOf]
      · gi_wp2
        refine bodyPost_ret (results_none rfl _ _ _) rfl ?_
        exact ⟨⟨_, rfl⟩, .inr ⟨pre ++ [(u, z)], trivial, hJx3⟩⟩
    · obtain rfl : r = 0 := by omega
      rw [show ((0 : Nat) : Int) - 1 = -1 by rfl]
      gi_wp2
      go_end0
      exact ⟨⟨_, rfl⟩, .inl ⟨pre, by have := hpre.out; omega, HJ.out⟩⟩

set_option maxHeartbeats 1000000 in
theorem backward_in (n : Nat) (pa : Option Addr) (k c : Nat) (w : World) :
    CallsIn Fence.wide n Try.prog 136 #[.slice pa k c] w fun e w' => e = .returned (.func (.func 146) #[] #[.pointer (some ⟨w.heap.size, 0, none⟩)]) ∧ w' = w.alloc (.cells #[.slice pa k c] 22) := by
  refine callsIn_of_wp Try.func136 rfl trivial ?_ rfl
  simp only [Try.ntmps136, List.size_toArray, List.length_cons, List.length_nil, Nat.reduceAdd, Nat.reduceSub, Array.replicate_succ, Array.replicate_zero, List.push_toArray, List.append_toArray, List.nil_append, List.cons_append]
  gi_wp2
  go_ret
  exact ⟨rfl, rfl⟩

theorem seq (n : Nat) (hn : 1 ≤ n) (Bn : Nat) (pa : Option Addr) (k c : Nat) (hk : k ≤ 1048576) (w : World) (hB : Bn < w.heap.size) (hR : Rd Bn pa k c w) :
    SeqP Fence.wide n Try.prog 146 #[.pointer (some ⟨Bn, 0, none⟩)] encs (fun W W' => Rd Bn pa k c W → Rd Bn pa k c W') (Px k) (fun ys => ys.length = k) (fun _ => True) w := by
  intro l J Jx W hW _ _ hY h0
  obtain ⟨hc, zs, hzl, hrz⟩ := hR
  exact closure_in n hn l Bn pa k c hk J Jx hY W ⟨(hW.cell (p := ⟨Bn, 0, none⟩) hB).trans hc, zs, hzl, hrz.below hW⟩ h0
end Go.Proofs.Ytoephhhofkmgjab.bw
