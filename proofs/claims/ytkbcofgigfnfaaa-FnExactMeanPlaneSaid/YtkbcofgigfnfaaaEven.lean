/- Hefts that all are the same number, the model's and the program's. -/
import Derived.Test.YtkbcofgigfnfaaaRepZ
import Derived.Test.YtkbcofgigfnfaaaSamplesT
import Derived.Test.YtkbcofgigfnfaaaMk
namespace Go.Proofs.Ytkbcofgigfnfaaa.even
open Go.RowKit own pp nums nums samplesv samplest
set_option linter.unusedVariables false
set_option linter.unusedSimpArgs false

def evenL (z : Int) (n : Nat) : List Int := List.replicate n z
theorem even_length (z : Int) (n : Nat) : (evenL z n).length = n := by simp [evenL]
theorem even_succ (z : Int) (n : Nat) : evenL z (n + 1) = evenL z n ++ [z] := by unfold evenL; exact List.replicate_succ'
def hfB (rows : List (List Int)) (zs : List Int) (n : Int) : Bool := sampleB rows zs && (decide (0 ≤ n) && decide (n ≤ 1000000))

set_option maxRecDepth 100000 in
set_option maxHeartbeats 4000000 in
theorem spec_ones (a : Option Addr) (rows : List (List Int)) (c : Nat) (a' : Option Addr) (zs : List Int) (c' : Nat) (w : World) (h16 : rows.length ≤ 16) :
    Calls Try.prog 88 #[.agg #[.slice a rows.length c, .slice a' zs.length c']] w (intfns.Made (evenL 1 rows.length) w) := by
  obtain ⟨i0, hi, hz0, hz1, hz2⟩ := info_parts mk.infoInt
  go_enter Try.func88, Try.ntmps88
  obtain ⟨b1, hw1⟩ : ∃ b1 : World, b1 = w.alloc (.cells #[.slice a rows.length c, .slice a' zs.length c'] 29) := ⟨_, rfl⟩
  have z1 : b1.heap.size = w.heap.size + 1 := by rw [hw1]; simp
  have x0_0 := (by rw [hw1]; exact cell_new _ _ _ rfl rfl : b1.cell? ⟨w.heap.size, 0, none⟩ = some (.slice a rows.length c))
  have x0_1 := (by rw [hw1]; exact cell_new _ _ _ rfl rfl : b1.cell? ⟨w.heap.size, 1, none⟩ = some (.slice a' zs.length c'))
  have HB0 := Lib.hid (show Below w.heap.size w b1 by rw [hw1]; exact (Below.refl w.heap.size w).alloc (Nat.le_refl _) _)
  have s1 : w.heap.size + 1 ≤ b1.heap.size := by omega
  have HZ1 := Lib.hid z1
  clear z1
  go_wp2_with fail
  rw [← hw1]
  clear hw1
  rw [← HZ1.out]
  go_loopw [3, 4] (fun v i wr => ∃ k : Nat, k ≤ rows.length ∧ i = .int .i64 k ∧ wr.ownsRow b1.heap.size 3 1 v k ((evenL 1 k).map (Value.int .i64)) ∧ Below b1.heap.size b1 wr) (fun _ i _ => rows.length - (intOf i).toNat)
  case atStart => exact ⟨0, Nat.zero_le _, rfl, (own_empty b1).1, below_alloc b1 _⟩
  case round =>
    obtain ⟨k, hk, rfl, hown, hbel⟩ := hrel
    have hvb := hown.lt
    have hsz := hbel.size
    replace x0_0 := cell_below hbel x0_0 (by omega)
    replace x0_1 := cell_below hbel x0_1 (by omega)
    by_cases hlt : k < rows.length
    · have HO := Lib.hid hown
      have HV := Lib.hid hvb
      have HBl := Lib.hid hbel
      have i1 : (0 : Int) ≤ (k : Int) := by omega
      have i2 : (k : Int) < (rows.length : Int) := by omega
      clear hown hbel hvb
      go_wp2_with (at_builtin; refine wpList_append_own _ rfl _ _ 23 rfl b1.heap.size 3 i0 (.int .i64 0) 1 8 Try.underlying23 hi hz0 hz1 hz2 rfl (by decide) _ _ _ rfl (HO.out.alloc _) ⟨wr.heap.size, 0, none⟩ 1 1 [.int .i64 1] rfl rfl (cell_one_new _ _ _) (by simp [Value.oneCell']) (by unfold maxLen; omega) (by omega) (by simp; omega) ?_; intro v' w2 hown' hgrow _)
      obtain ⟨g', cap', hv'⟩ := ownsRow_succ hown'
      subst hv'
      have HO2 := Lib.hid hown'
      have HB2 := Lib.hid ((HBl.out.alloc hsz _).grown hgrow (by simp; omega) (fun g e => (HV.out g e).1))
      clear hown' hgrow
      go_wp2_with fail
      go_roundw
      case rel => exact ⟨k + 1, by omega, by go_num, by rw [even_succ, List.map_append]; exact HO2.out, HB2.out⟩
      case measure => simp [intOf]; omega
    · obtain rfl : k = rows.length := by omega
      have HF1 := Lib.hid (show intfns.Made (evenL 1 rows.length) w (.returned u3) wr from ⟨u3, rfl, ((OwnI.of (by rw [even_length]; exact hown)).mono (by omega) (Nat.le_refl _)), HB0.out.trans (hbel.mono (by omega))⟩)
      clear hown hbel hvb
      go_wp2_with fail
      go_ret
      exact HF1.out
end Go.Proofs.Ytkbcofgigfnfaaa.even
