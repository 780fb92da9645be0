/- The walk of the model's comparison of two lists. -/
import Derived.Test.YtkbcofgigfnfaaaNums
import Derived.Test.YtkbcofgigfnfaaaGrid
import Derived.Deep.QuietTactic
namespace Go.Proofs.Ytkbcofgigfnfaaa.same
open Go.RowKit own pp nums
set_option linter.unusedVariables false

theorem same_at {xs ys : List Int} (hl : xs.length = ys.length) (h : ∀ k, k < xs.length → xs.getD k 0 = ys.getD k 0) : xs = ys := by
  apply List.ext_getElem hl
  intro i h1 h2
  have := h i h1
  rwa [List.getD_eq_getElem?_getD, List.getD_eq_getElem?_getD, List.getElem?_eq_getElem h1, List.getElem?_eq_getElem h2] at this
set_option maxHeartbeats 1000000 in
theorem spec_same (a : Option Addr) (xs : List Int) (c : Nat) (a' : Option Addr) (ys : List Int) (c' : Nat) (w : World) (hr : ints.Reads .i64 w a xs) (hq : ints.Reads .i64 w a' ys) (hn : xs.length ≤ 1048576) (hm : ys.length ≤ 1048576) (ok : Bool) (h : Hid (decide (xs = ys) = ok)) :
    Calls Try.prog 81 #[.slice a xs.length c, .slice a' ys.length c'] w (fun e w' => e = .returned (.bool ok) ∧ ∃ m, w' = w.drewN m) := by
  by_cases hl : xs.length = ys.length
  · have g0 : ((xs.length : Int) != (ys.length : Int)) = false := by rw [bne_eq_false_iff_eq]; omega
    have HL := Lib.hid hl
    clear hl
    go_enter Try.func81, Try.ntmps81
    go_wp2_with fail
    go_loopw [5] (fun i wr => ∃ k : Nat, k ≤ xs.length ∧ i = .int .i64 k ∧ Hid (∀ j, j < k → xs.getD j 0 = ys.getD j 0) ∧ ∃ m, wr = w.drewN m) (fun i _ => xs.length - (intOf i).toNat)
    case atStart => exact ⟨0, Nat.zero_le _, rfl, fun j hj => by omega, 0, rfl⟩
    case round =>
      obtain ⟨k, hk, rfl, hj, m, rfl⟩ := hrel
      by_cases hlt : k < xs.length
      · obtain ⟨b, off, rfl, hb, hc⟩ := hr.at hlt
        obtain ⟨b', off', rfl, hb', hc'⟩ := hq.at (k := k) (by have := HL.out; omega)
        replace hc : (w.drewN m).cell? ⟨b, off + k, none⟩ = some (.int .i64 (xs.getD k 0)) := hc
        replace hc' : (w.drewN m).cell? ⟨b', off' + k, none⟩ = some (.int .i64 (ys.getD k 0)) := hc'
        have i1 : (0 : Int) ≤ (k : Int) := by omega
        have i2 : (k : Int) < (xs.length : Int) := by omega
        have i3 : (k : Int) < (ys.length : Int) := by have := HL.out; omega
        have HM := Lib.hid (show ∀ n, ∃ q, (w.drewN m).drewN n = w.drewN q from fun n => ⟨_, World.drewN_drewN _ _ _⟩)
        by_cases hx : xs.getD k 0 = ys.getD k 0
        · have HJ : Hid (∀ j, j < k + 1 → xs.getD j 0 = ys.getD j 0) := fun j h => by
            by_cases e : j = k
            · rw [e]; exact hx
            · exact hj.out j (by omega)
          have g1 : (xs.getD k 0 != ys.getD k 0) = false := by rw [bne_eq_false_iff_eq]; exact hx
          clear hx hj
          generalize xs.getD k 0 = x at *
          generalize ys.getD k 0 = y at *
          generalize w.drewN m = wm at *
          go_wp2_with fail
          go_quiet (fail)
          go_wp2_with fail
          go_roundw
          case rel => exact ⟨k + 1, by omega, by go_num, HJ, HM.out _⟩
          case measure => simp [intOf]; omega
        · have e : ok = false := by rw [← h.out]; exact decide_eq_false (fun e => hx (by rw [e]))
          have g1 : (xs.getD k 0 != ys.getD k 0) = true := by rw [bne_iff_ne]; exact hx
          clear hx hj h
          subst e
          generalize xs.getD k 0 = x at *
          generalize ys.getD k 0 = y at *
          generalize w.drewN m = wm at *
          go_wp2_with fail
          go_quiet (fail)
          go_wp2_with fail
          go_ret
          exact ⟨rfl, HM.out _⟩
      · have hkk : k = xs.length := by omega
        have e : ok = true := by rw [← h.out]; exact decide_eq_true (same_at HL.out (fun j hj' => hj.out j (by omega)))
        clear h hj
        subst hkk
        subst e
        go_wp2_with fail
        go_ret
        exact ⟨rfl, m, rfl⟩
  · have g0 : ((xs.length : Int) != (ys.length : Int)) = true := by rw [bne_iff_ne]; omega
    have e : ok = false := by rw [← h.out]; exact decide_eq_false (fun e => hl (by rw [e]))
    clear h hl
    subst e
    go_enter Try.func81, Try.ntmps81
    go_wp2_with fail
    go_ret
    exact ⟨rfl, 0, rfl⟩
end Go.Proofs.Ytkbcofgigfnfaaa.same
