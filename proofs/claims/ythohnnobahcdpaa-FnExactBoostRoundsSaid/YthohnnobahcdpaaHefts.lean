/- The tests of hefts, the model's and the program's. -/
import Derived.Test.YthohnnobahcdpaaSidesOf
import Derived.Test.YthohnnobahcdpaaRange
namespace Go.Proofs.Ythohnnobahcdpaa.hefts
open Go.RowKit own pp nums range samplesv samplest both sides sidesof
set_option linter.unusedVariables false
set_option linter.unusedSimpArgs false

def heftsB (rows : List (List Int)) (hs : List Int) : Bool := numsR 0 1000000 hs && decide ((hs.length : Int) = (rows.length : Int))
theorem heftsB_iff (rows : List (List Int)) (hs : List Int) : heftsB rows hs = true ↔ numsR 0 1000000 hs = true ∧ hs.length = rows.length := by
  simp [heftsB]
  intro _
  omega

set_option maxRecDepth 100000 in
set_option maxHeartbeats 4000000 in
theorem spec_hefts (a : Option Addr) (rows : List (List Int)) (c : Nat) (a' : Option Addr) (zs : List Int) (c' : Nat) (e : Option Addr) (hs : List Int) (d : Nat) (w : World) (hh : ints.Reads .i64 w e hs) (hn : hs.length ≤ 1048576) (hm : rows.length ≤ 1048576) (ok : Bool) (h : Hid (heftsB rows hs = ok)) :
    Calls Try.prog 75 #[.agg #[.slice a rows.length c, .slice a' zs.length c'], .slice e hs.length d] w (RetB ok w) := by
  have HH := Lib.hid hh
  clear hh
  go_enter Try.func75, Try.ntmps75
  obtain ⟨b1, hw1⟩ : ∃ b1 : World, b1 = w.alloc (.cells #[.slice a rows.length c, .slice a' zs.length c'] 38) := ⟨_, rfl⟩
  have z1 : b1.heap.size = w.heap.size + 1 := by rw [hw1]; simp
  have x0_0 := (by rw [hw1]; exact cell_new _ _ _ rfl rfl : b1.cell? ⟨w.heap.size, 0, none⟩ = some (.slice a rows.length c))
  have x0_1 := (by rw [hw1]; exact cell_new _ _ _ rfl rfl : b1.cell? ⟨w.heap.size, 1, none⟩ = some (.slice a' zs.length c'))
  have HB0 := Lib.hid (show Below w.heap.size w b1 by rw [hw1]; exact (Below.refl w.heap.size w).alloc (Nat.le_refl _) _)
  have s1 : w.heap.size + 1 ≤ b1.heap.size := by omega
  clear z1
  go_wp2_with fail
  rw [← hw1]
  clear hw1
  go_loopw [5] (fun i wr => ∃ k : Nat, k ≤ hs.length ∧ i = .int .i64 k ∧ Hid (∀ j, j < k → inR 0 1000000 (hs.getD j 0) = true) ∧ wr = b1) (fun i _ => hs.length - (intOf i).toNat)
  case atStart => exact ⟨0, Nat.zero_le _, rfl, fun j hj => by omega, rfl⟩
  case round =>
    obtain ⟨k, hk, rfl, hj, hwr⟩ := hrel
    rw [hwr]
    clear hwr wr
    by_cases hlt : k < hs.length
    · obtain ⟨hb, off, rfl, hbl, hc⟩ := (HH.out.below HB0.out).at hlt
      cases hx : inR 0 1000000 (hs.getD k 0)
      · have e : ok = false := by rw [← h.out]; unfold heftsB numsR; rw [all_false _ 0 hs k hlt hx, Bool.false_and]
        have HX := Lib.hid hx
        clear h hx
        subst e
        unfold inR at HX
        generalize hs.getD k 0 = s at *
        go_wp2_with fail
        refine (in_any _ _ _ _ false HX).mono ?_
        rintro e w' ⟨rfl, rfl⟩
        go_wp2_with fail
        go_ret
        exact ⟨rfl, HB0.out⟩
      · have HJ : Hid (∀ j, j < k + 1 → inR 0 1000000 (hs.getD j 0) = true) := fun j h => by
          by_cases e : j = k
          · rw [e]; exact hx
          · exact hj.out j (by omega)
        have HX := Lib.hid hx
        clear hx hj
        unfold inR at HX
        generalize hs.getD k 0 = s at *
        go_wp2_with fail
        refine (in_any _ _ _ _ true HX).mono ?_
        rintro e w' ⟨rfl, rfl⟩
        go_wp2_with fail
        go_roundw
        case rel => exact ⟨k + 1, by omega, by go_num, HJ, trivial⟩
        case measure => simp [intOf]; omega
    · have hke : k = hs.length := by omega
      have e : ((hs.length : Int) == (rows.length : Int)) = ok := by
        rw [← h.out]
        unfold heftsB numsR
        rw [all_true _ 0 hs (fun j hj' => hj.out j (by omega)), Bool.true_and]
        rfl
      clear h hj
      subst hke
      have HE := Lib.hid (show RetB ok w (.returned (.bool ((hs.length : Int) == (rows.length : Int)))) b1 from ⟨by rw [e], HB0.out⟩)
      clear e
      go_wp2_with fail
      go_ret
      exact HE.out
set_option maxRecDepth 100000 in
set_option maxHeartbeats 4000000 in
theorem impl_hefts (a : Option Addr) (rows : List (List Int)) (c : Nat) (a' : Option Addr) (zs : List Int) (c' : Nat) (e : Option Addr) (hs : List Int) (d : Nat) (w : World) (hh : ints.Reads .i64 w e hs) (hn : hs.length ≤ 1048576) (hm : rows.length ≤ 1048576) (ok : Bool) (h : Hid (heftsB rows hs = ok)) :
    Calls Try.prog 78 #[.agg #[.slice a rows.length c, .slice a' zs.length c'], .slice e hs.length d] w (RetB ok w) := by
  have HH := Lib.hid hh
  clear hh
  by_cases hl : hs.length = rows.length
  · have hnr : numsR 0 1000000 hs = ok := by rw [← h.out]; unfold heftsB; rw [hl, show decide ((rows.length : Int) = (rows.length : Int)) = true from by simp, Bool.and_true]
    have HN := Lib.hid hnr
    have g : ((hs.length : Int) == (rows.length : Int)) = true := by rw [hl]; simp
    clear hnr hl h
    go_enter Try.func78, Try.ntmps78
    obtain ⟨b1, hw1⟩ : ∃ b1 : World, b1 = w.alloc (.cells #[.slice a rows.length c, .slice a' zs.length c'] 38) := ⟨_, rfl⟩
    have z1 : b1.heap.size = w.heap.size + 1 := by rw [hw1]; simp
    have x0_0 := (by rw [hw1]; exact cell_new _ _ _ rfl rfl : b1.cell? ⟨w.heap.size, 0, none⟩ = some (.slice a rows.length c))
    have x0_1 := (by rw [hw1]; exact cell_new _ _ _ rfl rfl : b1.cell? ⟨w.heap.size, 1, none⟩ = some (.slice a' zs.length c'))
    have HB0 := Lib.hid (show Below w.heap.size w b1 by rw [hw1]; exact (Below.refl w.heap.size w).alloc (Nat.le_refl _) _)
    have s1 : w.heap.size + 1 ≤ b1.heap.size := by omega
    clear z1
    go_wp2_with fail
    rw [← hw1]
    clear hw1
    refine (impl_range e hs d 1000000 _ (HH.out.below HB0.out) hn ok HN).mono ?_
    rintro e w' ⟨rfl, hb⟩
    have HB2 := Lib.hid (HB0.out.trans (hb.mono (by omega)))
    clear hb
    go_wp2_with fail
    go_ret
    exact ⟨rfl, HB2.out⟩
  · have e9 : ok = false := by rw [← h.out]; unfold heftsB; rw [show decide ((hs.length : Int) = (rows.length : Int)) = false from by simp; omega, Bool.and_false]
    have g : ((hs.length : Int) == (rows.length : Int)) = false := by simp; omega
    subst e9
    clear hl h
    go_enter Try.func78, Try.ntmps78
    obtain ⟨b1, hw1⟩ : ∃ b1 : World, b1 = w.alloc (.cells #[.slice a rows.length c, .slice a' zs.length c'] 38) := ⟨_, rfl⟩
    have z1 : b1.heap.size = w.heap.size + 1 := by rw [hw1]; simp
    have x0_0 := (by rw [hw1]; exact cell_new _ _ _ rfl rfl : b1.cell? ⟨w.heap.size, 0, none⟩ = some (.slice a rows.length c))
    have x0_1 := (by rw [hw1]; exact cell_new _ _ _ rfl rfl : b1.cell? ⟨w.heap.size, 1, none⟩ = some (.slice a' zs.length c'))
    have HB0 := Lib.hid (show Below w.heap.size w b1 by rw [hw1]; exact (Below.refl w.heap.size w).alloc (Nat.le_refl _) _)
    have s1 : w.heap.size + 1 ≤ b1.heap.size := by omega
    clear z1
    go_wp2_with fail
    rw [← hw1]
    clear hw1
    go_ret
    exact ⟨rfl, HB0.out⟩
end Go.Proofs.Ythohnnobahcdpaa.hefts
