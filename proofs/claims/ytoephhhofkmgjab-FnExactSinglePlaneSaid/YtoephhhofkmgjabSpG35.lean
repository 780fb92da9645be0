/- Several texts in one. -/
import Derived.Lib.Hide
import Derived.LoopIn
import Derived.LoopNIn
import Derived.Maps.AppendAt
import Derived.OwnWalkIn
import Derived.RangeFuncBound
import Derived.RangeFuncBox
import Derived.RangeFuncCalls
import Derived.RangeFuncLeaves
import Derived.RangeFuncNested
import Derived.Shelf.Abstract
import Derived.TacticsInMore
import Derived.WalkKit
import Derived.Test.YtoephhhofkmgjabSpG15
namespace Go.Proofs.Ytoephhhofkmgjab.prs
open Go Go.RowKit Go.Shelf own
set_option linter.unusedVariables false
attribute [local go_sem] Oper.semAt_some

abbrev Pl := Fin 16
/-- All pairs of elements, the first one not behind the second one. -/
def prs : List Pl → List (Pl × Pl)
  | [] => []
  | x :: t => (x :: t).map (fun y => (x, y)) ++ prs t
def vals (xs : List Pl) : List Int := xs.map fun x => ((x.val : Nat) : Int)
theorem vals_length (xs : List Pl) : (vals xs).length = xs.length := by simp [vals]
theorem vals_getD (xs : List Pl) (k : Nat) (h : k < xs.length) : (vals xs).getD k 0 = ((xs[k].val : Nat) : Int) := by
  simp [vals, List.getD_eq_getElem?_getD, h]
theorem prs_at (xs : List Pl) (k : Nat) (h : k < xs.length) : prs (xs.drop k) = (xs.drop k).map (fun y => (xs[k], y)) ++ prs (xs.drop (k + 1)) := by
  rw [List.drop_eq_getElem_cons h]; rfl
theorem row_at (xs : List Pl) (x : Pl) (k : Nat) (h : k < xs.length) : (xs.drop k).map (fun y => (x, y)) = (x, xs[k]) :: (xs.drop (k + 1)).map (fun y => (x, y)) := by
  rw [List.drop_eq_getElem_cons h]; rfl
def encs (x : Pl × Pl) : Array Value := #[.int .i64 ((x.1.val : Nat) : Int), .int .i64 ((x.2.val : Nat) : Int)]

set_option maxRecDepth 100000 in
set_option maxHeartbeats 2000000 in
theorem closure_in (n : Nat) (hn : 1 ≤ n) (l Bn n₀ : Nat) (pa : Option Addr) (xs : List Pl) (c : Nat) (hx : xs.length ≤ 16) (hcap : xs.length ≤ c) (J Jx : List (Pl × Pl) → World → Prop)
    (hY : ∀ pre x W, J pre W → pre.length < (prs xs).length → YieldAt Fence.wide (n - 1) Try.prog l (encs x) W fun e W' =>
      (e = .returned (.bool true) ∧ J (pre ++ [x]) W' ∧ Below n₀ W W') ∨ (e = .returned (.bool false) ∧ Jx (pre ++ [x]) W'))
    (W : World) (hBn : Bn < n₀) (hc : W.cell? ⟨Bn, 0, none⟩ = some (.slice pa xs.length c)) (hR : ints.Reads .i64 W pa (vals xs)) (hl : ints.Low n₀ pa (vals xs).length) (h0 : J [] W) :
    CallsIn Fence.wide n Try.prog 132 #[.func (.yield l) #[] #[], .pointer (some ⟨Bn, 0, none⟩)] W fun e W' => (∃ v, e = .returned v) ∧
      ((∃ ys, ys = prs xs ∧ J ys W') ∨ (∃ pre, pre <+: prs xs ∧ Jx pre W')) := by
  refine callsIn_of_wp Try.func132 rfl trivial ?_ rfl
  simp only [Try.ntmps132, List.size_toArray, List.length_cons, List.length_nil, Nat.reduceAdd, Nat.reduceSub, Array.replicate_succ, Array.replicate_zero, List.push_toArray, List.append_toArray, List.nil_append, List.cons_append]
  have HC := Lib.hid hc
  have HRd := Lib.hid hR
  have HLo := Lib.hid hl
  clear hR hl
  gi_wp2
  gi_loopw [9] (fun i wr => ∃ (k : Nat) (pre : List (Pl × Pl)), k ≤ xs.length ∧ i = .int .i64 k ∧ Hid (prs xs = pre ++ prs (xs.drop k)) ∧ J pre wr ∧ Hid (Below n₀ W wr)) (fun i _ => xs.length - (intOf i).toNat)
  case atStart => exact ⟨0, [], Nat.zero_le _, rfl, rfl, h0, Below.refl _ _⟩
  case round =>
    obtain ⟨k, pre, hk, rfl, hpre, hJ, hB⟩ := hrel
    have HJ := Lib.hid hJ
    clear hJ
    by_cases hlt : k < xs.length
    · obtain ⟨b, off, hpe, hb, hck⟩ := (HRd.out.low_below HLo.out hB.out).at (k := k) (by rw [vals_length]; exact hlt)
      subst hpe
      rw [vals_getD xs k hlt] at hck
      have hc1 : wr.cell? ⟨Bn, 0, none⟩ = some (.slice (some ⟨b, off, none⟩) xs.length c) := (hB.out.cell (p := ⟨Bn, 0, none⟩) hBn).trans HC.out
      have HPA := Lib.hid (prs_at xs k hlt)
      have i1 : (0 : Int) ≤ (k : Int) := by omega
      have i2 : (k : Int) < (xs.length : Int) := by omega
      have i3 : (k : Int) ≤ (xs.length : Int) := by omega
      have i4 : (xs.length : Int) ≤ (c : Int) := by omega
      obtain ⟨x, hxe⟩ : ∃ x : Pl, x = xs[k] := ⟨_, rfl⟩
      rw [← hxe] at hck HPA
      clear hxe hc
      have HB1 := hB
      gi_wp2
      gi_loopw [18] (fun i wr2 => ∃ (j : Nat) (pre' : List (Pl × Pl)), j ≤ xs.length - k ∧ i = .int .i64 j ∧ Hid (prs xs = pre' ++ ((xs.drop (k + j)).map (fun y => (x, y)) ++ prs (xs.drop (k + 1)))) ∧ J pre' wr2 ∧ Hid (Below n₀ W wr2)) (fun i _ => xs.length - k - (intOf i).toNat)
      case atStart => exact ⟨0, pre, Nat.zero_le _, rfl, Lib.hid (by rw [hpre.out, HPA.out]; rfl), HJ.out, HB1⟩
      case round =>
        obtain ⟨j, pre', hj, rfl, hpre', hJ', hB'⟩ := hrel
        have HJ' := Lib.hid hJ'
        clear hJ'
        by_cases hjt : j < xs.length - k
        · have hkj : k + j < xs.length := by omega
          obtain ⟨b', off', hpe', hb', hckj⟩ := (HRd.out.low_below HLo.out hB'.out).at (k := k + j) (by rw [vals_length]; exact hkj)
          cases hpe'
          rw [vals_getD xs (k + j) hkj, ← Nat.add_assoc] at hckj
          have HRA := Lib.hid (row_at xs x (k + j) hkj)
          obtain ⟨y, hye⟩ : ∃ y : Pl, y = xs[k + j] := ⟨_, rfl⟩
          rw [← hye] at hckj HRA
          clear hye
          have HE := Lib.hid (show prs xs = (pre' ++ [(x, y)]) ++ ((xs.drop (k + (j + 1))).map (fun y => (x, y)) ++ prs (xs.drop (k + 1))) by rw [hpre'.out, HRA.out]; simp [Nat.add_assoc])
          obtain ⟨fn, tmps, assign, body, hy, hRr⟩ := hY pre' (x, y) _ HJ'.out (by rw [HE.out]; simp)
          have HRR := Lib.hid hRr
          clear hRr
          have i5 : (0 : Int) ≤ (j : Int) := by omega
          have i6 : (j : Int) < ((xs.length - k : Nat) : Int) := by omega
          dsimp only [encs] at hy
          gi_wp2
          refine HRR.out.mono ?_
          rintro e W3 (⟨rfl, hJ3, hk3⟩ | ⟨rfl, hJx3⟩)
          · have HB3 := Lib.hid (hB'.out.trans hk3)
            have HJ3 := Lib.hid hJ3
            clear hk3 hJ3
            gi_wp2
            go_roundw
            case rel => exact ⟨j + 1, pre' ++ [(x, y)], by omega, by simp, HE, HJ3.out, HB3⟩
            case measure => simp [intOf]; omega
          · gi_wp2
            refine bodyPost_ret (results_none rfl _ _ _) rfl ?_
            exact ⟨⟨_, rfl⟩, .inr ⟨pre' ++ [(x, y)], ⟨_, HE.out.symm⟩, hJx3⟩⟩
        · obtain rfl : j = xs.length - k := by omega
          have HE := Lib.hid (show prs xs = pre' ++ prs (xs.drop (k + 1)) by rw [hpre'.out, show k + (xs.length - k) = xs.length by omega]; simp)
          gi_wp2
          go_roundw
          case rel => exact ⟨k + 1, pre', by omega, by simp, HE, HJ'.out, hB'⟩
          case measure => simp [intOf]; omega
    · obtain rfl : k = xs.length := by omega
      have HE := Lib.hid (show prs xs = pre by rw [hpre.out]; simp [prs])
      gi_wp2
      go_end0
      exact ⟨⟨_, rfl⟩, .inl ⟨pre, HE.out.symm, HJ.out⟩⟩

set_option maxHeartbeats 1000000 in
theorem pairs_in (n : Nat) (pa : Option Addr) (k c : Nat) (w : World) :
    CallsIn Fence.wide n Try.prog 107 #[.slice pa k c] w fun e w' => e = .returned (.func (.func 132) #[] #[.pointer (some ⟨w.heap.size, 0, none⟩)]) ∧ w' = w.alloc (.cells #[.slice pa k c] 22) := by
  refine callsIn_of_wp Try.func107 rfl trivial ?_ rfl
  simp only [Try.ntmps107, List.size_toArray, List.length_cons, List.length_nil, Nat.reduceAdd, Nat.reduceSub, Array.replicate_succ, Array.replicate_zero, List.push_toArray, List.append_toArray, List.nil_append, List.cons_append]
  gi_wp2
  go_ret
  exact ⟨rfl, rfl⟩

theorem stops (n : Nat) (hn : 1 ≤ n) (Bn n₀ : Nat) (pa : Option Addr) (xs : List Pl) (c : Nat) (hx : xs.length ≤ 16) (hcap : xs.length ≤ c) (w : World) (hBn : Bn < n₀) (hn₀ : n₀ ≤ w.heap.size)
    (hc : w.cell? ⟨Bn, 0, none⟩ = some (.slice pa xs.length c)) (hR : ints.Reads .i64 w pa (vals xs)) (hl : ints.Low n₀ pa (vals xs).length) :
    SeqStopsK Fence.wide n Try.prog 132 #[.pointer (some ⟨Bn, 0, none⟩)] encs (Below n₀) (fun ys => ys = prs xs) (fun pre => pre <+: prs xs) (prs xs).length w := fun l J Jx W hW _ _ hY h0 =>
  closure_in n hn l Bn n₀ pa xs c hx hcap J Jx hY W hBn ((hW.cell (p := ⟨Bn, 0, none⟩) (by show Bn < w.heap.size; omega)).trans hc) (hR.below hW) hl h0
end Go.Proofs.Ytoephhhofkmgjab.prs
