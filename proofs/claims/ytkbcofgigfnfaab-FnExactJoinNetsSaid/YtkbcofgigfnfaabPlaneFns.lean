/- The walks of the laws' own helpers on planes: szPlane, toPlane, eqPlane, markPlane, heldPlane. -/
import Derived.Test.YtkbcofgigfnfaabIntFns
import Derived.Test.YtkbcofgigfnfaabOwnG
namespace Go.Proofs.Ytkbcofgigfnfaab.planefns
open Go.RowKit own
set_option linter.unusedVariables false

theorem sz_yes (a : Option Addr) (n c : Nat) (b left : Int) (w : World) (h0 : (n : Int) ≤ left) (h1 : left ≤ 1048576) :
    Calls Try.prog 200 #[.agg #[.slice a n c, .int .i64 b], .int .i64 left] w fun e w' => e = .returned (.int .i64 (left - n)) ∧ Below w.heap.size w w' := by
  go_enter Try.func200, Try.ntmps200
  go_wp2_with fail
  refine (intfns.sz_yes _ _ _ _ _ (by omega) (by omega)).mono ?_
  rintro e w' ⟨rfl, rfl⟩
  go_wp2_with fail
  go_ret
  exact ⟨rfl, (Below.refl _ _).alloc (Nat.le_refl _) _⟩

theorem sz_no (a : Option Addr) (n c : Nat) (b left : Int) (w : World) (h0 : left < (n : Int)) (h1 : left ≤ 1048576) (h2 : 0 ≤ left) (hn : n ≤ 9223372036854775807) :
    Calls Try.prog 200 #[.agg #[.slice a n c, .int .i64 b], .int .i64 left] w fun e w' => e = .returned (.int .i64 (-1)) ∧ Below w.heap.size w w' := by
  go_enter Try.func200, Try.ntmps200
  go_wp2_with fail
  refine (intfns.sz_no _ _ _ _ _ (by omega) (by omega) (by omega) hn).mono ?_
  rintro e w' ⟨rfl, rfl⟩
  go_wp2_with fail
  go_ret
  exact ⟨rfl, (Below.refl _ _).alloc (Nat.le_refl _) _⟩

/-- What a copy is. -/
def MadeP (zs : List Int) (b : Int) (w : World) (e : Ending) (w' : World) : Prop :=
  ∃ v, e = .returned (.agg #[v, .int .i64 b]) ∧ OwnI w.heap.size w'.heap.size w' v zs ∧ Below w.heap.size w w'

set_option maxHeartbeats 400000 in
theorem to_any (a : Option Addr) (zs : List Int) (c : Nat) (b : Int) (w : World) (hr : ints.Reads .i64 w a zs) (hn : zs.length ≤ 1048576) :
    Calls Try.prog 201 #[.agg #[.slice a zs.length c, .int .i64 b]] w (MadeP zs b w) := by
  go_enter Try.func201, Try.ntmps201
  go_wp2_with fail
  refine (intfns.to_any a zs c _ (hr.below ?_) hn).mono ?_
  · exact (((Below.refl _ _).alloc (Nat.le_refl _) _).alloc (by simp) _).alloc (by simp; omega) _
  rintro e w1 ⟨v, rfl, ho, hb⟩
  obtain ⟨p, q, rfl, _, _, _⟩ := ho.slice
  obtain ⟨hc, hf⟩ := bcell hb
  have hs : w.heap.size + 1 + 1 + 1 ≤ w1.heap.size := by have := hb.size; simp at this; omega
  have HB := Lib.hid hb
  have HO := Lib.hid ho
  clear hb ho
  go_wp2_with fail
  refine bodyPost_ret (v := .agg #[.slice p zs.length q, .int .i64 b]) (by simp [results, Try.results201, go_sem, hc]) rfl ⟨_, rfl, ?_, ?_⟩
  · simp only [size_set]
    exact ((((HO.out.set (by simp) _).set (by simp) _).set (by simp) _).set (by simp) _).mono (by simp; omega) (Nat.le_refl _)
  · exact (((((((Below.refl _ _).alloc (Nat.le_refl _) _).alloc (by simp) _).alloc (by simp; omega) _).trans (HB.out.mono (by simp; omega))).setCell (by simp; omega) _).setCell (by simp; omega) _).setCell (by simp) _ |>.setCell (by simp) _
set_option maxHeartbeats 400000 in
theorem eq_same (a a' : Option Addr) (zs : List Int) (c c' : Nat) (b : Int) (w : World) (hr : ints.Reads .i64 w a zs) (hr' : ints.Reads .i64 w a' zs) (hn : zs.length ≤ 9223372036854775807) :
    Calls Try.prog 205 #[.agg #[.slice a zs.length c, .int .i64 b], .agg #[.slice a' zs.length c', .int .i64 b]] w fun e w' => e = .returned (.bool true) ∧ Below w.heap.size w w' := by
  go_enter Try.func205, Try.ntmps205
  go_wp2_with fail
  have hB := (((Below.refl w.heap.size w).alloc (Nat.le_refl _) (.cells #[.slice a zs.length c, .int .i64 b] 56)).alloc (by simp) (.cells #[.slice a' zs.length c', .int .i64 b] 56))
  refine (intfns.eq_same _ _ zs _ _ _ (hr.below hB) (hr'.below hB) hn).mono ?_
  rintro e w1 ⟨rfl, hb⟩
  obtain ⟨hc, hf⟩ := bcell hb
  have hs : w.heap.size + 1 + 1 ≤ w1.heap.size := by have := hb.size; simp at this; omega
  have HB := Lib.hid (hB.trans (hb.mono (by simp; omega)))
  clear hb hB
  go_wp2_with fail
  go_ret
  exact ⟨rfl, HB.out⟩
end Go.Proofs.Ytkbcofgigfnfaab.planefns
