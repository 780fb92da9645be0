/- Several texts in one. -/
import Derived.Lib.Hide
import Derived.LoopIn
import Derived.LoopNIn
import Derived.Maps.AppendAt
import Derived.OwnWalkIn
import Derived.RangeFuncBound
import Derived.RangeFuncBox
import Derived.RangeFuncCalls
import Derived.RangeFuncLeaves
import Derived.RangeFuncNested
import Derived.Shelf.Abstract
import Derived.TacticsInMore
import Derived.WalkKit
import Derived.Test.YtoephhhofkmgjabSpG36
namespace Go.Proofs.Ytoephhhofkmgjab.lists
open Go Go.RowKit Go.Shelf own rangep cub cubat
set_option linter.unusedVariables false
attribute [local go_sem] Oper.semAt_some

def encs (x : Value × List Int) : Array Value := #[x.1]
/-- The box holds the cube. -/
def Cb (Bn n L : Nat) (W : World) : Prop := W.cell? ⟨Bn, 0, none⟩ = some (.int .i64 n) ∧ W.cell? ⟨Bn, 1, none⟩ = some (.int .i64 L)
def Px (n₀ n L : Nat) (pre : List (Value × List Int)) (x : Value × List Int) (W : World) : Prop := pre.length < (2 * L + 1) ^ n ∧ x.2 = cub n L pre.length ∧ OwnI n₀ W.heap.size W x.1 x.2
theorem cb_below {Bn n L : Nat} {W W' : World} (h : Cb Bn n L W) (hb : Below W.heap.size W W') (hB : Bn < W.heap.size) : Cb Bn n L W' := ⟨cell_below hb h.1 hB, cell_below hb h.2 hB⟩
theorem cb_putObj {Bn n L : Nat} (W : World) (l : Nat) (o o' : Obj) (hl : W.heap[l]? = some o) (ho : o.isCells = false) (h : Cb Bn n L W) : Cb Bn n L (W.putObj l o') :=
  ⟨cell_kept h.1 (grownBy_putObj' _ l o') (fun r e => by cases e; exact ⟨_, hl, ho⟩), cell_kept h.2 (grownBy_putObj' _ l o') (fun r e => by cases e; exact ⟨_, hl, ho⟩)⟩
theorem cb_lt {Bn n L : Nat} {W : World} (h : Cb Bn n L W) : Bn < W.heap.size := by
  obtain ⟨o, ho, _⟩ := cells_of_cell h.1
  exact (Array.getElem?_eq_some_iff.1 ho).1
theorem grown_of_below {W W' : World} (h : Below W.heap.size W W') : W.grownBy W' none := ⟨h.os, h.tape, h.output, h.size, fun k hk _ => h.block k hk⟩

set_option maxRecDepth 100000 in
set_option maxHeartbeats 2000000 in
theorem closure_in (d : Nat) (hd : 1 ≤ d) (l Bn n₀ n L N : Nat) (hn : n ≤ 1048576) (hL : 2 * L + 1 ≤ 1048576) (hN : (2 * L + 1) ^ n = N) (hN2 : N ≤ 1048576) (J Jx : List (Value × List Int) → World → Prop)
    (hY : ∀ pre x W, J pre W → Px n₀ n L pre x W → YieldAt Fence.wide (d - 1) Try.prog l (encs x) W fun e W' =>
      (e = .returned (.bool true) ∧ J (pre ++ [x]) W' ∧ (Cb Bn n L W ∧ W.heap.size ≤ W.heap.size → Cb Bn n L W') ∧ W.heap.size ≤ W'.heap.size) ∨ (e = .returned (.bool false) ∧ Jx (pre ++ [x]) W'))
    (W : World) (hn₀ : n₀ ≤ W.heap.size) (hJ : AbidesFrom W.heap.size J) (hC : Cb Bn n L W) (h0 : J [] W) :
    CallsIn Fence.wide d Try.prog 115 #[.func (.yield l) #[] #[], .pointer (some ⟨Bn, 0, none⟩)] W fun e W' => (∃ v, e = .returned v) ∧
      ((∃ ys : List (Value × List Int), ys.length = N ∧ J ys W') ∨ (∃ pre, True ∧ Jx pre W')) := by
  refine callsIn_of_wp Try.func115 rfl trivial ?_ rfl
  simp only [Try.ntmps115, List.size_toArray, List.length_cons, List.length_nil, Nat.reduceAdd, Nat.reduceSub, Array.replicate_succ, Array.replicate_zero, List.push_toArray, List.append_toArray, List.nil_append, List.cons_append]
  have HCb := Lib.hid hC
  obtain ⟨c0, c1⟩ := hC
  have HJA := Lib.hid hJ
  have H0 := Lib.hid h0
  have HN := Lib.hid hN
  clear hJ h0 hN
  gi_wp2
  refine ⟨trivial, ?_⟩
  refine (callsIn_wide.2 (size_of n L W hL hn (by rw [HN.out]; exact hN2))).mono ?_
  rintro e w1 ⟨rfl, hb1⟩
  rw [HN.out]
  have HS1 := Lib.hid hb1.size
  have HC1 := Lib.hid (cb_below HCb.out hb1 (cb_lt HCb.out))
  have HJ1 := Lib.hid (HJA.out _ _ _ _ H0.out (grown_of_below hb1) (fun r e => by cases e))
  clear c0 c1 hb1 HCb
  have i0 : (0 : Int) ≤ (N : Int) := by omega
  have i1 : (N : Int) ≤ 1048576 := by omega
  gi_wp2
  gi_loopw [6] (fun i wr => ∃ (pre : List (Value × List Int)), pre.length ≤ N ∧ i = .int .i64 (pre.length : Int) ∧ J pre wr ∧ Hid (Cb Bn n L wr) ∧ Hid (W.heap.size ≤ wr.heap.size)) (fun i _ => N - (intOf i).toNat)
  case atStart => exact ⟨[], Nat.zero_le _, rfl, HJ1.out, HC1, HS1⟩
  case round =>
    obtain ⟨pre, hk, rfl, hJ, hB, hS⟩ := hrel
    have HJ := Lib.hid hJ
    clear hJ HC1 HS1 HJ1
    by_cases hlt : pre.length < N
    · obtain ⟨c0, c1⟩ := hB.out
      have i2 : (0 : Int) ≤ (pre.length : Int) := by omega
      have i3 : (pre.length : Int) < (N : Int) := by omega
      have HL := Lib.hid (show ∀ x : Value × List Int, (pre ++ [x]).length = pre.length + 1 from fun x => by simp)
      gi_wp2
      refine ⟨trivial, ?_⟩
      refine (callsIn_wide.2 (callsIn_wide.1 (at_in 6 (Nat.le_refl _) n L pre.length wr hn (by omega) (by omega)))).mono ?_
      rintro e w2 ⟨v, rfl, ho, hb⟩
      have HB2 := Lib.hid hb
      have hs2 := hb.size
      have HS2 := Lib.hid hs2
      have hJ2 := HJA.out _ _ _ _ HJ.out (grown_of_below hb) (fun r e => by cases e)
      have HC2 := Lib.hid (cb_below hB.out hb (cb_lt hB.out))
      obtain ⟨fn, tmps, assign, body, hy, hRr⟩ := hY pre (v, cub n L pre.length) _ hJ2 ⟨by rw [HN.out]; exact hlt, rfl, ho.mono (by have := hS.out; omega) (Nat.le_refl _)⟩
      have HRR := Lib.hid hRr
      clear hRr c0 c1 ho hb hJ2 hs2
      dsimp only [encs] at hy
      gi_wp2
      refine HRR.out.mono ?_
      rintro e W3 (⟨rfl, hJ3, hk3, hs3⟩ | ⟨rfl, hJx3⟩)
      · have HC3 := Lib.hid (hk3 ⟨HC2.out, Nat.le_refl _⟩)
        have HJ3 := Lib.hid hJ3
        have HS3 := Lib.hid (show W.heap.size ≤ W3.heap.size from Nat.le_trans hS.out (Nat.le_trans HS2.out hs3))
        clear hk3 hJ3 hs3
        gi_wp2
        go_roundw
        case rel => exact ⟨pre ++ [(v, cub n L pre.length)], by rw [HL.out]; omega, by rw [HL.out]; go_num, HJ3.out, HC3, HS3⟩
        case measure => simp [intOf]; omega
      · gi_wp2
        refine bodyPost_ret (results_none rfl _ _ _) rfl ?_
        exact ⟨⟨_, rfl⟩, .inr ⟨_, trivial, hJx3⟩⟩
    · have he : pre.length = N := by omega
      rw [he]
      gi_wp2
      go_end0
      exact ⟨⟨_, rfl⟩, .inl ⟨pre, he, HJ.out⟩⟩

set_option maxHeartbeats 1000000 in
theorem lists_in (d n L : Nat) (w : World) :
    CallsIn Fence.wide d Try.prog 83 #[.agg #[.int .i64 n, .int .i64 L]] w fun e w' => e = .returned (.func (.func 115) #[] #[.pointer (some ⟨w.heap.size, 0, none⟩)]) ∧ w' = w.alloc (.cells #[.int .i64 n, .int .i64 L] 100) := by
  refine callsIn_of_wp Try.func83 rfl trivial ?_ rfl
  simp only [Try.ntmps83, List.size_toArray, List.length_cons, List.length_nil, Nat.reduceAdd, Nat.reduceSub, Array.replicate_succ, Array.replicate_zero, List.push_toArray, List.append_toArray, List.nil_append, List.cons_append]
  gi_wp2
  go_ret
  exact ⟨rfl, rfl⟩

/-- What a round keeps: the cube, and no block is lost. -/
def Kp (Bn n L : Nat) (W W' : World) : Prop := (Cb Bn n L W ∧ W.heap.size ≤ W.heap.size → Cb Bn n L W') ∧ W.heap.size ≤ W'.heap.size
theorem kp_t {Bn n L : Nat} {A B C : World} (h : Kp Bn n L A B) (k : Kp Bn n L B C) : Kp Bn n L A C := ⟨fun x => k.1 ⟨h.1 x, Nat.le_refl _⟩, Nat.le_trans h.2 k.2⟩
theorem kp_b {Bn n L N : Nat} (W : World) (l : Nat) (o o' : Obj) (_ : N ≤ l) (hl : W.heap[l]? = some o) (ho : o.isCells = false) (_ : o.isWalk = false) : Kp Bn n L W (W.putObj l o') := ⟨fun x => cb_putObj W l o o' hl ho x.1, (grownBy_putObj' W l o').size⟩
theorem seq (d : Nat) (hd : 1 ≤ d) (Bn n₀ n L : Nat) (hn : n ≤ 1048576) (hL : 2 * L + 1 ≤ 1048576) (hN : (2 * L + 1) ^ n ≤ 1048576) (w : World) (hn₀ : n₀ ≤ w.heap.size) (hC : Cb Bn n L w) :
    SeqP Fence.wide d Try.prog 115 #[.pointer (some ⟨Bn, 0, none⟩)] encs (Kp Bn n L) (Px n₀ n L) (fun ys => ys.length = (2 * L + 1) ^ n) (fun _ => True) w := by
  intro l J Jx W hW hJ _ hY h0
  exact closure_in d hd l Bn n₀ n L _ hn hL rfl hN J Jx (fun pre x W1 h1 h2 => (hY pre x W1 h1 h2).mono (fun e W' h => h.elim (fun x => .inl ⟨x.1, x.2.1, x.2.2.1, x.2.2.2⟩) .inr)) W (Nat.le_trans hn₀ hW.size) hJ (cb_below hC hW (cb_lt hC)) h0
end Go.Proofs.Ytoephhhofkmgjab.lists
