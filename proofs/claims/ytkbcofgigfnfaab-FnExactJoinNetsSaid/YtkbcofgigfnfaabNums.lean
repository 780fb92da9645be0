/- The walks of the model's and the program's tests of numbers and points. -/
import Derived.Test.YtkbcofgigfnfaabRows
import Derived.Test.YtkbcofgigfnfaabOwnG
import Derived.Test.YtkbcofgigfnfaabPlainPlane
import Derived.WalkSpells
import Derived.WalkLawsBesides
import Derived.Outline
import Derived.ProofKit
namespace Go.Proofs.Ytkbcofgigfnfaab.nums
open Go.RowKit own pp
set_option linter.unusedVariables false

/-- It returns a truth value, and the world is as it was. -/
def Says (ok : Bool) (w : World) (e : Ending) (w' : World) : Prop := e = .returned (.bool ok) ∧ w = w'
theorem says_ret {ok : Bool} {w : World} (e : Ending) (w' : World) (h : Says ok w e w') : RetB ok w e w' := by
  obtain ⟨h1, rfl⟩ := h
  exact ⟨h1, Below.refl _ _⟩

theorem in_any (x a b : Int) (w : World) (ok : Bool) (h : Hid ((decide (a ≤ x) && decide (x ≤ b)) = ok)) :
    Calls Try.prog 126 #[.int .i64 x, .int .i64 a, .int .i64 b] w (Says ok w) := by
  by_cases h1 : a ≤ x
  · by_cases h2 : x ≤ b
    · have e : ok = true := by rw [← h.out]; simp [h1, h2]
      clear h
      subst e
      go_enter Try.func126, Try.ntmps126
      go_wp2
      go_ret
      exact ⟨rfl, rfl⟩
    · have e : ok = false := by rw [← h.out]; simp [h2]
      clear h
      subst e
      go_enter Try.func126, Try.ntmps126
      go_wp2
      go_ret
      exact ⟨rfl, rfl⟩
  · have e : ok = false := by rw [← h.out]; simp [h1]
    clear h
    subst e
    go_enter Try.func126, Try.ntmps126
    go_wp2
    go_ret
    exact ⟨rfl, rfl⟩

set_option maxHeartbeats 400000 in
theorem spec_nums (a : Option Addr) (zs : List Int) (c : Nat) (m : Int) (w : World) (hr : ints.Reads .i64 w a zs) (hn : zs.length ≤ 1048576) (h0 : 0 ≤ m) (h1 : m ≤ 1000) (ok : Bool) (h : Hid (numsB m zs = ok)) :
    Calls Try.prog 171 #[.slice a zs.length c, .int .i64 m] w (Says ok w) := by
  go_enter Try.func171, Try.ntmps171
  go_wp2_with fail
  go_loop [5] (fun i => ∃ k : Nat, k ≤ zs.length ∧ i = .int .i64 k ∧ Hid (∀ j, j < k → inB m (zs.getD j 0) = true)) (fun i => zs.length - (intOf i).toNat)
  case atStart => exact ⟨0, Nat.zero_le _, rfl, fun j hj => by omega⟩
  case round =>
    obtain ⟨k, hk, rfl, hj⟩ := hrel
    by_cases hlt : k < zs.length
    · obtain ⟨b, off, rfl, hb, hc⟩ := hr.at hlt
      cases hx : inB m (zs.getD k 0)
      · have e : ok = false := by rw [← h.out]; exact all_false _ 0 zs k hlt hx
        have HX := Lib.hid hx
        clear h hx
        subst e
        unfold inB at HX
        generalize hs : zs.getD k 0 = s at *
        clear hs
        go_wp2_with fail
        refine (in_any _ _ _ _ false HX).mono ?_
        rintro e w' ⟨rfl, rfl⟩
        go_wp2_with fail
        go_ret
        exact ⟨rfl, rfl⟩
      · have HJ : Hid (∀ j, j < k + 1 → inB m (zs.getD j 0) = true) := fun j h => by
          by_cases e : j = k
          · rw [e]; exact hx
          · exact hj.out j (by omega)
        have HX := Lib.hid hx
        clear hx hj
        unfold inB at HX
        generalize hs : zs.getD k 0 = s at *
        clear hs
        go_wp2_with fail
        refine (in_any _ _ _ _ true HX).mono ?_
        rintro e w' ⟨rfl, rfl⟩
        go_wp2_with fail
        go_round
        case rel => exact ⟨k + 1, by omega, by go_num, HJ⟩
        case measure => simp [intOf]; omega
    · have : k = zs.length := by omega
      have e : ok = true := by rw [← h.out]; exact all_true _ 0 zs (fun j hj' => hj.out j (by omega))
      clear h hj
      subst this
      subst e
      go_wp2_with fail
      go_ret
      exact ⟨rfl, rfl⟩

theorem within_any (x m : Int) (w : World) (h0 : 0 ≤ m) (h1 : m ≤ 1000) (ok : Bool) (h : Hid (inB m x = ok)) :
    Calls Try.prog 206 #[.int .i64 x, .int .i64 m] w (Says ok w) := by
  unfold inB at h
  by_cases h1 : -m ≤ x
  · by_cases h2 : x ≤ m
    · have e : ok = true := by rw [← h.out]; simp [h1, h2]
      clear h
      subst e
      go_enter Try.func206, Try.ntmps206
      go_wp2
      go_ret
      exact ⟨rfl, rfl⟩
    · have e : ok = false := by rw [← h.out]; simp [h2]
      clear h
      subst e
      go_enter Try.func206, Try.ntmps206
      go_wp2
      go_ret
      exact ⟨rfl, rfl⟩
  · have e : ok = false := by rw [← h.out]; simp [h1]
    clear h
    subst e
    go_enter Try.func206, Try.ntmps206
    go_wp2
    go_ret
    exact ⟨rfl, rfl⟩
set_option maxHeartbeats 400000 in
theorem impl_nums (a : Option Addr) (zs : List Int) (c : Nat) (m : Int) (w : World) (hr : ints.Reads .i64 w a zs) (hn : zs.length ≤ 1048576) (h0 : 0 ≤ m) (h1 : m ≤ 1000) (ok : Bool) (h : Hid (numsB m zs = ok)) :
    Calls Try.prog 199 #[.slice a zs.length c, .int .i64 m] w (Says ok w) := by
  go_enter Try.func199, Try.ntmps199
  go_wp2_with fail
  go_loop [9] (fun i => ∃ k : Nat, k ≤ zs.length ∧ i = .int .i64 k ∧ Hid (∀ j, j < k → inB m (zs.getD j 0) = true)) (fun i => zs.length - (intOf i).toNat)
  case atStart => exact ⟨0, Nat.zero_le _, rfl, fun j hj => by omega⟩
  case round =>
    obtain ⟨k, hk, rfl, hj⟩ := hrel
    by_cases hlt : k < zs.length
    · obtain ⟨b, off, rfl, hb, hc⟩ := hr.at hlt
      cases hx : inB m (zs.getD k 0)
      · have e : ok = false := by rw [← h.out]; exact all_false _ 0 zs k hlt hx
        have HX := Lib.hid hx
        clear h hx
        subst e
        generalize hs : zs.getD k 0 = s at *
        clear hs
        go_wp2_with fail
        refine (within_any _ _ _ h0 h1 false HX).mono ?_
        rintro e w' ⟨rfl, rfl⟩
        go_wp2_with fail
        go_ret
        exact ⟨rfl, rfl⟩
      · have HJ : Hid (∀ j, j < k + 1 → inB m (zs.getD j 0) = true) := fun j h => by
          by_cases e : j = k
          · rw [e]; exact hx
          · exact hj.out j (by omega)
        have HX := Lib.hid hx
        clear hx hj
        generalize hs : zs.getD k 0 = s at *
        clear hs
        go_wp2_with fail
        refine (within_any _ _ _ h0 h1 true HX).mono ?_
        rintro e w' ⟨rfl, rfl⟩
        go_wp2_with fail
        go_round
        case rel => exact ⟨k + 1, by omega, by go_num, HJ⟩
        case measure => simp [intOf]; omega
    · have : k = zs.length := by omega
      have e : ok = true := by rw [← h.out]; exact all_true _ 0 zs (fun j hj' => hj.out j (by omega))
      clear h hj
      subst this
      subst e
      go_wp2_with fail
      go_ret
      exact ⟨rfl, rfl⟩

theorem spec_point (a : Option Addr) (zs : List Int) (c : Nat) (w : World) (hr : ints.Reads .i64 w a zs) (hn : zs.length ≤ 1048576) (ok : Bool) (h : Hid (pointB zs = ok)) :
    Calls Try.prog 103 #[.slice a zs.length c] w (Says ok w) := by
  cases hl : (decide ((1 : Int) ≤ zs.length) && decide ((zs.length : Int) ≤ 4))
  · have e : ok = false := by
      rw [← h.out]
      unfold pointB
      rw [Bool.and_eq_false_iff]
      left
      simp at hl ⊢
      intro h; have := hl (by omega); omega
    have HL := Lib.hid hl
    clear h hl
    subst e
    go_enter Try.func103, Try.ntmps103
    go_wp2_with fail
    refine (in_any _ _ _ _ false HL).mono ?_
    rintro e w' ⟨rfl, rfl⟩
    go_wp2_with fail
    go_ret
    exact ⟨rfl, rfl⟩
  · have e : Hid (numsB 9 zs = ok) := by
      rw [← h.out]
      simp at hl
      show numsB 9 zs = pointB zs
      simp [pointB, show 1 ≤ zs.length by omega, show zs.length ≤ 4 by omega]
    have HL := Lib.hid hl
    clear h hl
    go_enter Try.func103, Try.ntmps103
    go_wp2_with fail
    refine (in_any _ _ _ _ true HL).mono ?_
    rintro e w' ⟨rfl, rfl⟩
    go_wp2_with fail
    refine (spec_nums a zs c 9 _ hr hn (by omega) (by omega) ok e).mono ?_
    rintro e w' ⟨rfl, rfl⟩
    go_wp2_with fail
    go_ret
    exact ⟨rfl, rfl⟩
theorem impl_point (a : Option Addr) (zs : List Int) (c : Nat) (w : World) (hr : ints.Reads .i64 w a zs) (hn : zs.length ≤ 1048576) (ok : Bool) (h : Hid (pointB zs = ok)) :
    Calls Try.prog 159 #[.slice a zs.length c] w (Says ok w) := by
  by_cases h1 : 1 ≤ zs.length
  · by_cases h2 : zs.length ≤ 4
    · have e : Hid (numsB 9 zs = ok) := by
        rw [← h.out]
        show numsB 9 zs = pointB zs
        simp [pointB, h1, h2]
      clear h
      go_enter Try.func159, Try.ntmps159
      go_wp2_with fail
      refine (impl_nums a zs c 9 _ hr hn (by omega) (by omega) ok e).mono ?_
      rintro e w' ⟨rfl, rfl⟩
      go_wp2_with fail
      go_ret
      exact ⟨rfl, rfl⟩
    · have e : ok = false := by rw [← h.out]; simp [pointB, h2]
      clear h
      subst e
      go_enter Try.func159, Try.ntmps159
      go_wp2_with fail
      go_ret
      exact ⟨rfl, rfl⟩
  · have e : ok = false := by rw [← h.out]; simp [pointB, h1]
    clear h
    subst e
    have hz : zs = [] := List.length_eq_zero_iff.1 (by omega)
    subst hz
    go_enter Try.func159, Try.ntmps159
    go_wp2_with fail
    go_ret
    exact ⟨rfl, rfl⟩
end Go.Proofs.Ytkbcofgigfnfaab.nums
