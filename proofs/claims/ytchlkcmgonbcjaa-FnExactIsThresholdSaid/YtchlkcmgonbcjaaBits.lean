/- The walks of the model's and the program's bit points. -/
import Derived.Test.YtchlkcmgonbcjaaNums
import Derived.OwnWalk
import Derived.RangeFuncBox
namespace Go.Proofs.Ytchlkcmgonbcjaa.bitw
open Go.RowKit own pp nums
set_option linter.unusedVariables false

theorem infoInt : (Try.prog.info? 3).map (fun i => (i.zero, i.size, i.bytes)) = some (some (.int .i64 0), 1, 8) := by kernel_rfl

/-- The first k binary digits of m, that of 1 first. -/
def bitsTo (m : Nat) (k : Nat) : List Int := (List.range k).map fun i => ((m / 2 ^ i % 2 : Nat) : Int)
theorem bitsTo_length (m k : Nat) : (bitsTo m k).length = k := by simp [bitsTo]
theorem bitsTo_succ (m k : Nat) : bitsTo m (k + 1) = bitsTo m k ++ [((m / 2 ^ k % 2 : Nat) : Int)] := by simp [bitsTo, List.range_succ]

theorem and_one : ∀ q : Fin 16, Go.bits BinOp.and IntKind.i64 ((q.val : Nat) : Int) 1 = ((q.val % 2 : Nat) : Int) := by decide +kernel
theorem bit_at (m k : Nat) (hm : m < 16) : Go.bits BinOp.and IntKind.i64 ((m : Int) / 2 ^ k) 1 = ((m / 2 ^ k % 2 : Nat) : Int) := by
  have e : ((m : Int) / 2 ^ k) = ((m / 2 ^ k : Nat) : Int) := by simp
  have h : m / 2 ^ k < 16 := Nat.lt_of_le_of_lt (Nat.div_le_self _ _) hm
  rw [e]
  exact and_one ⟨m / 2 ^ k, h⟩

set_option maxRecDepth 100000 in
set_option maxHeartbeats 1000000 in
theorem spec_bits (n m : Nat) (w : World) (hn : n ≤ 4) (hm : m < 16) :
    Calls Try.prog 85 #[.int .i64 n, .int .i64 m] w (intfns.Made (bitsTo m n) w) := by
  obtain ⟨i0, hi, hz0, hz1, hz2⟩ := info_parts infoInt
  go_enter Try.func85, Try.ntmps85
  go_wp2_with fail
  have hown0 := (own_empty w).1
  have hb0 := below_alloc w (.cells #[] 3)
  go_loopw [5, 6] (fun v i wr => ∃ (k : Nat), k ≤ n ∧ i = .int .i64 k ∧ wr.ownsRow w.heap.size 3 1 v k ((bitsTo m k).map (Value.int .i64)) ∧ Below w.heap.size w wr) (fun _ i _ => n - (intOf i).toNat)
  case atStart => exact ⟨0, Nat.zero_le _, rfl, hown0, hb0⟩
  case round =>
    obtain ⟨k, hk, rfl, hown, hbel⟩ := hrel
    have hvb := hown.lt
    have HV := Lib.hid hvb
    have HBl := Lib.hid hbel
    have hsz := hbel.size
    clear hown0 hb0 hvb hbel
    by_cases hlt : k < n
    · have HSn := Lib.hid (bitsTo_succ m k)
      have HO := Lib.hid hown
      clear hown
      have hk4 : k < 4 := by omega
      have hbit := bit_at m k hm
      generalize ((m / 2 ^ k % 2 : Nat) : Int) = x at *
      go_wp2_with (at_builtin; refine wpList_append_own _ rfl _ _ 22 rfl w.heap.size 3 i0 (.int .i64 0) 1 8 Try.underlying22 hi hz0 hz1 hz2 rfl (by decide) _ _ _ rfl (HO.out.alloc _) ⟨wr.heap.size, 0, none⟩ 1 1 [.int .i64 x] rfl rfl (cell_one_new _ _ _) (by simp [Value.oneCell']) (by unfold maxLen; omega) (by omega) (by simp; omega) ?_; intro v' w2 hown' hgrow _)
      obtain ⟨g', cap', hv'⟩ := ownsRow_succ hown'
      subst hv'
      have HO2 := Lib.hid hown'
      have HB2 := Lib.hid ((HBl.out.alloc hsz _).grown hgrow (by simp; omega) (fun g e => (HV.out g e).1))
      clear hown' hgrow hbit
      go_wp2_with fail
      go_roundw
      case rel => exact ⟨k + 1, by omega, by go_num, by rw [HSn.out, List.map_append]; exact HO2.out, HB2.out⟩
      case measure => simp [intOf]; omega
    · obtain rfl : k = n := by omega
      have HF1 := Lib.hid (show intfns.Made (bitsTo m k) w (.returned u5) wr from ⟨u5, rfl, OwnI.of (by rw [bitsTo_length]; exact hown), HBl.out⟩)
      clear hown
      go_wp2_with fail
      go_ret
      exact HF1.out
end Go.Proofs.Ytchlkcmgonbcjaa.bitw
