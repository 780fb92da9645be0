/- The walks of the model's and the program's bit points. -/
import Derived.Test.YtoephhhofkmgjaaNums
import Derived.OwnWalk
import Derived.RangeFuncBox
namespace Go.Proofs.Ytoephhhofkmgjaa.bitw
open Go.RowKit own pp nums
set_option linter.unusedVariables false

theorem infoInt : (Try.prog.info? 3).map (fun i => (i.zero, i.size, i.bytes)) = some (some (.int .i64 0), 1, 8) := by kernel_rfl

/-- The first k binary digits of m, that of 1 first. -/
def bitsTo (m : Nat) (k : Nat) : List Int := (List.range k).map fun i => ((m / 2 ^ i % 2 : Nat) : Int)
theorem bitsTo_length (m k : Nat) : (bitsTo m k).length = k := by simp [bitsTo]
theorem bitsTo_succ (m k : Nat) : bitsTo m (k + 1) = bitsTo m k ++ [((m / 2 ^ k % 2 : Nat) : Int)] := by simp [bitsTo, List.range_succ]

theorem and_one : ∀ q : Fin 16, Go.bits BinOp.and IntKind.i64 ((q.val : Nat) : Int) 1 = ((q.val % 2 : Nat) : Int) := by decide +kernel
theorem bit_at (m k : Nat) (hm : m < 16) : Go.bits BinOp.and IntKind.i64 ((m : Int) / 2 ^ k) 1 = ((m / 2 ^ k % 2 : Nat) : Int) := by
  have e : ((m : Int) / 2 ^ k) = ((m / 2 ^ k : Nat) : Int) := by simp
  have h : m / 2 ^ k < 16 := Nat.lt_of_le_of_lt (Nat.div_le_self _ _) hm
  rw [e]
  exact and_one ⟨m / 2 ^ k, h⟩

set_option maxRecDepth 100000 in
set_option maxHeartbeats 1000000 in
theorem spec_bits (n m : Nat) (w : World) (hn : n ≤ 4) (hm : m < 16) :
    Calls Try.prog 112 #[.int .i64 n, .int .i64 m] w (intfns.Made (bitsTo m n) w) := by
  obtain ⟨i0, hi, hz0, hz1, hz2⟩ := info_parts infoInt
  go_enter Try.func112, Try.ntmps112
  go_wp2_with fail
  have hown0 := (own_empty w).1
  have hb0 := below_alloc w (.cells #[] 3)
  go_loopw [5, 6] (fun v i wr => ∃ (k : Nat), k ≤ n ∧ i = .int .i64 k ∧ wr.ownsRow w.heap.size 3 1 v k ((bitsTo m k).map (Value.int .i64)) ∧ Below w.heap.size w wr) (fun _ i _ => n - (intOf i).toNat)
  case atStart => exact ⟨0, Nat.zero_le _, rfl, hown0, hb0⟩
  case round =>
    obtain ⟨k, hk, rfl, hown, hbel⟩ := hrel
    have hvb := hown.lt
    have HV := Lib.hid hvb
    have HBl := Lib.hid hbel
    have hsz := hbel.size
    clear hown0 hb0 hvb hbel
    by_cases hlt : k < n
    · have HSn := Lib.hid (bitsTo_succ m k)
      have HO := Lib.hid hown
      clear hown
      have hk4 : k < 4 := by omega
      have hbit := bit_at m k hm
      generalize ((m / 2 ^ k % 2 : Nat) : Int) = x at *
      go_wp2_with (at_builtin; refine wpList_append_own _ rfl _ _ 33 rfl w.heap.size 3 i0 (.int .i64 0) 1 8 Try.underlying33 hi hz0 hz1 hz2 rfl (by decide) _ _ _ rfl (HO.out.alloc _) ⟨wr.heap.size, 0, none⟩ 1 1 [.int .i64 x] rfl rfl (cell_one_new _ _ _) (by simp [Value.oneCell']) (by unfold maxLen; omega) (by omega) (by simp; omega) ?_; intro v' w2 hown' hgrow _)
      obtain ⟨g', cap', hv'⟩ := ownsRow_succ hown'
      subst hv'
      have HO2 := Lib.hid hown'
      have HB2 := Lib.hid ((HBl.out.alloc hsz _).grown hgrow (by simp; omega) (fun g e => (HV.out g e).1))
      clear hown' hgrow hbit
      go_wp2_with fail
      go_roundw
      case rel => exact ⟨k + 1, by omega, by go_num, by rw [HSn.out, List.map_append]; exact HO2.out, HB2.out⟩
      case measure => simp [intOf]; omega
    · obtain rfl : k = n := by omega
      have HF1 := Lib.hid (show intfns.Made (bitsTo m k) w (.returned u5) wr from ⟨u5, rfl, OwnI.of (by rw [bitsTo_length]; exact hown), HBl.out⟩)
      clear hown
      go_wp2_with fail
      go_ret
      exact HF1.out
/-- The first k of the digits, then zeros. -/
def filled (m n k : Nat) : List Value := (bitsTo m k).map (Value.int .i64) ++ List.replicate (n - k) (.int .i64 0)
theorem filled_zero (m n : Nat) : filled m n 0 = List.replicate n (.int .i64 0) := by simp [filled, bitsTo]
theorem filled_all (m n : Nat) : filled m n n = (bitsTo m n).map (Value.int .i64) := by simp [filled]
theorem filled_succ (m n k : Nat) (h : k < n) : (filled m n k).set k (.int .i64 ((m / 2 ^ k % 2 : Nat) : Int)) = filled m n (k + 1) := by
  unfold filled
  rw [List.set_append, if_neg (by simp [bitsTo_length]), show n - k = (n - (k + 1)) + 1 by omega, List.replicate_succ, List.length_map, bitsTo_length, Nat.sub_self, List.set_cons_zero, bitsTo_succ, List.map_append, List.append_assoc]
  rfl
theorem filled_at (m n k : Nat) (h : k < n) : (filled m n k)[k]? = some (.int .i64 0) := by
  unfold filled
  rw [List.getElem?_append_right (by simp [bitsTo_length]), List.getElem?_replicate, if_pos (by simp [bitsTo_length]; omega)]

set_option maxRecDepth 100000 in
set_option maxHeartbeats 1000000 in
theorem impl_bits (n m : Nat) (w : World) (hn : n ≤ 4) (hm : m < 16) :
    Calls Try.prog 73 #[.int .i64 n, .int .i64 m] w (intfns.Made (bitsTo m n) w) := by
  obtain ⟨i0, hi, hz0, hz1, hz2⟩ := info_parts infoInt
  go_enter Try.func73, Try.ntmps73
  go_wp2_with (refine wpList_make_full _ rfl _ _ 33 rfl w.heap.size 3 i0 (.int .i64 0) 1 Try.underlying33 hi hz0 hz1 .i64 .i64 _ _ n rfl rfl rfl rfl (by rw [hz2]; omega) (by unfold maxLen; omega) (Nat.le_refl _) ?_; intro w1 hown1 hgrow1; refine Hid.out ?_)
  refine Lib.hid ?_
  have hb1 : Below w.heap.size w w1 := (Below.refl _ _).grown hgrow1 (Nat.le_refl _) (by simp)
  rw [show (Value.int .i64 0).cells = #[Value.int .i64 0] from rfl, Nat.mul_one, toList_madeCells_one, ← filled_zero m] at hown1
  go_wp2_with fail
  go_loopw [11] (fun i wr => ∃ k : Nat, k ≤ n ∧ i = .int .i64 k ∧ wr.ownsRow w.heap.size 3 1 (.slice (some ⟨w.heap.size, 0, none⟩) n n) n (filled m n k) ∧ Below w.heap.size w wr) (fun i _ => n - (intOf i).toNat)
  case atStart => exact ⟨0, Nat.zero_le _, rfl, hown1, hb1⟩
  case round =>
    obtain ⟨k, hk, rfl, hown, hbel⟩ := hrel
    clear hown1 hgrow1 hb1
    have HB := Lib.hid hbel
    clear hbel
    by_cases hlt : k < n
    · have hcell : wr.cell? ⟨w.heap.size, k, none⟩ = some (.int .i64 0) := by rw [hown.cellAt k (by omega), filled_at m n k hlt]
      have hfro := hown.frozenAt k
      have hst := hown.stored k (.int .i64 ((m / 2 ^ k % 2 : Nat) : Int))
      rw [filled_succ m n k hlt] at hst
      have HS := Lib.hid hst
      have hbit := bit_at m k hm
      have hk4 : k < 4 := by omega
      clear hst hown
      generalize ((m / 2 ^ k % 2 : Nat) : Int) = x at *
      go_wp2_with fail
      clear hbit
      go_roundw
      case rel => exact ⟨k + 1, by omega, by go_num, HS.out.1, HB.out.setCell (Nat.le_refl _) _⟩
      case measure => simp [intOf]; omega
    · obtain rfl : k = n := by omega
      rw [filled_all] at hown
      have HO := Lib.hid hown
      clear hown
      go_wp2_with fail
      go_ret
      exact ⟨_, rfl, OwnI.of (by rw [bitsTo_length]; exact HO.out), HB.out⟩
end Go.Proofs.Ytoephhhofkmgjaa.bitw
