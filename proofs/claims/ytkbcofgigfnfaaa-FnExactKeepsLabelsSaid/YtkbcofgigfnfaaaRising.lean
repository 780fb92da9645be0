/- The walks of the tests whether a list is strictly ascending within 0..n-1: the model's and the program's. -/
import Derived.Test.YtkbcofgigfnfaaaSamplesV
namespace Go.Proofs.Ytkbcofgigfnfaaa.rising
open Go.RowKit own pp nums samplesv
set_option linter.unusedVariables false
set_option linter.unusedSimpArgs false

/-- At a place: in 0..n-1 and more than the number before it. -/
def riseAt (n : Int) (zs : List Int) (k : Nat) : Bool := (decide (0 ≤ zs.getD k 0) && decide (zs.getD k 0 ≤ n - 1)) && (decide (k = 0) || decide (zs.getD (k - 1) 0 < zs.getD k 0))
def risesB (n : Int) (zs : List Int) : Bool := (List.range zs.length).all (riseAt n zs)
theorem rises_all {n : Int} {zs : List Int} (h : ∀ k, k < zs.length → riseAt n zs k = true) : risesB n zs = true := by
  unfold risesB
  rw [List.all_eq_true]
  intro k hk
  exact h k (List.mem_range.1 hk)
theorem rises_at {n : Int} {zs : List Int} (h : risesB n zs = true) (k : Nat) (hk : k < zs.length) : riseAt n zs k = true := by
  unfold risesB at h
  rw [List.all_eq_true] at h
  exact h k (List.mem_range.2 hk)
theorem rises_no {n : Int} {zs : List Int} (k : Nat) (hk : k < zs.length) (h : riseAt n zs k = false) : risesB n zs = false := by
  cases hx : risesB n zs
  · rfl
  · rw [rises_at hx k hk] at h; cases h

set_option maxRecDepth 100000 in
set_option maxHeartbeats 4000000 in
theorem spec_rising (a : Option Addr) (zs : List Int) (c : Nat) (n : Int) (w : World) (hr : ints.Reads .i64 w a zs) (hn : zs.length ≤ 1048576) (ok : Bool) (h : Hid (risesB n zs = ok)) :
    Calls Try.prog 76 #[.slice a zs.length c, .int .i64 0, .int .i64 (n - 1)] w (fun e w' => e = .returned (.bool ok) ∧ ∃ m, w' = w.drewN m) := by
  go_enter Try.func76, Try.ntmps76
  go_wp2_with fail
  go_loopw [7] (fun i wr => ∃ k : Nat, k ≤ zs.length ∧ i = .int .i64 k ∧ Hid (∀ j, j < k → riseAt n zs j = true) ∧ ∃ m, wr = w.drewN m) (fun i _ => zs.length - (intOf i).toNat)
  case atStart => exact ⟨0, Nat.zero_le _, rfl, fun j hj => by omega, 0, rfl⟩
  case round =>
    obtain ⟨k, hk, rfl, hj, m, rfl⟩ := hrel
    have hrr : ints.Reads .i64 (w.drewN m) a zs := hr
    generalize hwr : w.drewN m = wr at *
    have HWR := Lib.hid hwr
    clear hwr
    by_cases hlt : k < zs.length
    · have HIN := Lib.hid (fun (ok' : Bool) (HX : Hid ((decide (0 ≤ zs.getD k 0) && decide (zs.getD k 0 ≤ n - 1)) = ok')) (q : Nat) => says_quiet (w := wr) (n := q) (in_any (zs.getD k 0) 0 (n - 1) (wr.drewN q) ok' HX))
      cases hin : (decide (0 ≤ zs.getD k 0) && decide (zs.getD k 0 ≤ n - 1))
      · obtain ⟨b, off, rfl, hb, hc⟩ := hrr.at hlt
        have e : ok = false := by rw [← h.out]; exact rises_no k hlt (by unfold riseAt; rw [hin, Bool.false_and])
        have HC := Lib.hid (HIN.out false (Lib.hid hin))
        have i1 : (0 : Int) ≤ (k : Int) := by omega
        have i2 : (k : Int) < (zs.length : Int) := by omega
        clear hrr h hj hin HIN
        subst e
        generalize hs : zs.getD k 0 = s at *
        clear hs
        go_wp2_with fail
        go_quiet ((go_at_call 58; exact HC.out _))
        go_wp2_with fail
        go_ret
        exact ⟨rfl, _, by rw [← HWR.out, World.drewN_drewN]⟩
      · have HC := Lib.hid (HIN.out true (Lib.hid hin))
        cases k with
        | zero =>
          obtain ⟨b, off, rfl, hb, hc⟩ := hrr.at hlt
          rw [Nat.add_zero] at hc
          have HJ : Hid (∀ j, j < 0 + 1 → riseAt n zs j = true) := fun j h => by rw [show j = 0 by omega]; unfold riseAt; rw [hin]; rfl
          have i2 : (0 : Int) < (zs.length : Int) := by omega
          clear hrr hj hin HIN
          generalize hs : zs.getD 0 0 = s at *
          clear hs
          go_wp2_with fail
          go_quiet ((go_at_call 58; exact HC.out _))
          go_wp2_with fail
          go_roundw
          case rel => exact ⟨1, by omega, by go_num, HJ, _, by rw [← HWR.out, World.drewN_drewN]⟩
          case measure => simp [intOf]; omega
        | succ k =>
          obtain ⟨b, off, rfl, hb, hc⟩ := hrr.at hlt
          obtain ⟨b', off', e', hb', hc'⟩ := hrr.at (k := k) (by omega)
          cases e'
          have i1 : (0 : Int) ≤ (k : Int) := by omega
          have i2 : (k : Int) + 1 < (zs.length : Int) := by omega
          have i3 : (k : Int) < (zs.length : Int) := by omega
          have g0 : decide ((0 : Int) < (k : Int) + 1) = true := decide_eq_true (by omega)
          by_cases hp : zs.getD k 0 < zs.getD (k + 1) 0
          · have HJ : Hid (∀ j, j < k + 1 + 1 → riseAt n zs j = true) := fun j h => by
              by_cases e : j = k + 1
              · rw [e]; unfold riseAt; rw [hin, show k + 1 - 1 = k by omega, decide_eq_true hp, Bool.or_true]; rfl
              · exact hj.out j (by omega)
            have g1 : decide (zs.getD (k + 1) 0 ≤ zs.getD k 0) = false := decide_eq_false (by omega)
            clear hrr hj hin HIN hp
            generalize hs : zs.getD (k + 1) 0 = s at *
            generalize hs' : zs.getD k 0 = s' at *
            clear hs hs'
            go_wp2_with fail
            go_quiet ((go_at_call 58; exact HC.out _))
            go_wp2_with fail
            go_roundw
            case rel => exact ⟨k + 1 + 1, by omega, by go_num, HJ, _, by rw [← HWR.out, World.drewN_drewN]⟩
            case measure => simp [intOf]; omega
          · have e : ok = false := by
              rw [← h.out]
              refine rises_no (k + 1) hlt ?_
              unfold riseAt
              rw [show k + 1 - 1 = k by omega, decide_eq_false hp, decide_eq_false (by omega : ¬ k + 1 = 0), Bool.or_false, Bool.and_false]
            have g1 : decide (zs.getD (k + 1) 0 ≤ zs.getD k 0) = true := decide_eq_true (by omega)
            clear hrr h hj hin HIN hp
            subst e
            generalize hs : zs.getD (k + 1) 0 = s at *
            generalize hs' : zs.getD k 0 = s' at *
            clear hs hs'
            go_wp2_with fail
            go_quiet ((go_at_call 58; exact HC.out _))
            go_wp2_with fail
            go_ret
            exact ⟨rfl, _, by rw [← HWR.out, World.drewN_drewN]⟩
    · obtain rfl : k = zs.length := by omega
      have e : ok = true := by rw [← h.out]; exact rises_all hj.out
      clear h hj
      subst e
      go_wp2_with fail
      go_ret
      exact ⟨rfl, _, HWR.out.symm⟩
/-- The last of the first k numbers, or -1. -/
def lastTo (zs : List Int) : Nat → Int
  | 0 => -1
  | k + 1 => zs.getD k 0
theorem last_fit {n : Int} {zs : List Int} {k : Nat} (h : ∀ j, j < k → riseAt n zs j = true) : -1 ≤ lastTo zs k := by
  cases k with
  | zero => simp [lastTo]
  | succ k =>
    have := h k (by omega)
    simp only [riseAt, Bool.and_eq_true, decide_eq_true_eq] at this
    show -1 ≤ zs.getD k 0
    omega
theorem rise_last {n : Int} {zs : List Int} {k : Nat} (h : ∀ j, j < k → riseAt n zs j = true) : riseAt n zs k = (decide (lastTo zs k < zs.getD k 0) && decide (zs.getD k 0 < n)) := by
  have h1 := last_fit h
  unfold riseAt
  rw [Bool.eq_iff_iff]
  cases k with
  | zero =>
    simp [lastTo]
    omega
  | succ k =>
    have e : lastTo zs (k + 1) = zs.getD k 0 := rfl
    rw [e] at h1 ⊢
    simp only [Bool.and_eq_true, Bool.or_eq_true, decide_eq_true_eq, show k + 1 - 1 = k by omega]
    constructor
    · rintro ⟨⟨a, b⟩, c⟩
      rcases c with c | c <;> omega
    · rintro ⟨a, b⟩
      refine ⟨⟨?_, by omega⟩, .inr a⟩
      omega

set_option maxRecDepth 100000 in
set_option maxHeartbeats 2000000 in
theorem impl_places (a : Option Addr) (zs : List Int) (c : Nat) (n : Int) (w : World) (hr : ints.Reads .i64 w a zs) (hn : zs.length ≤ 1048576) (ok : Bool) (h : Hid (risesB n zs = ok)) :
    Calls Try.prog 78 #[.slice a zs.length c, .int .i64 n] w (Says ok w) := by
  go_enter Try.func78, Try.ntmps78
  go_wp2_with fail
  go_loop [5, 10] (fun l i => ∃ k : Nat, k ≤ zs.length ∧ i = .int .i64 k ∧ l = .int .i64 (lastTo zs k) ∧ Hid (∀ j, j < k → riseAt n zs j = true)) (fun _ i => zs.length - (intOf i).toNat)
  case atStart => exact ⟨0, Nat.zero_le _, rfl, rfl, fun j hj => by omega⟩
  case round =>
    obtain ⟨k, hk, rfl, rfl, hj⟩ := hrel
    by_cases hlt : k < zs.length
    · obtain ⟨b, off, rfl, hb, hc⟩ := hr.at hlt
      have HR := Lib.hid (rise_last hj.out)
      have HL := Lib.hid (show lastTo zs (k + 1) = zs.getD k 0 from rfl)
      have i1 : (0 : Int) ≤ (k : Int) := by omega
      have i2 : (k : Int) < (zs.length : Int) := by omega
      cases hx : riseAt n zs k
      · have e : ok = false := by rw [← h.out]; exact rises_no k hlt hx
        rw [hx] at HR
        clear h hj hx
        subst e
        generalize zs.getD k 0 = s at *
        generalize lastTo zs k = l at *
        by_cases hs : s ≤ l
        · have g : decide (s ≤ l) = true := by simp [hs]
          clear HR
          go_wp2_with fail
          go_ret
          exact ⟨rfl, rfl⟩
        · have g : decide (s ≤ l) = false := by simp; omega
          have g2 : decide (n ≤ s) = true := by
            have := HR.out
            have h1 : l < s := by omega
            simp [h1] at this
            simp; omega
          clear HR
          go_wp2_with fail
          go_ret
          exact ⟨rfl, rfl⟩
      · have HJ : Hid (∀ j, j < k + 1 → riseAt n zs j = true) := fun j h => by
          by_cases e : j = k
          · rw [e]; exact hx
          · exact hj.out j (by omega)
        rw [hx] at HR
        have hh : lastTo zs k < zs.getD k 0 ∧ zs.getD k 0 < n := by have := HR.out; simpa using this.symm
        clear hj hx HR
        generalize zs.getD k 0 = s at *
        generalize lastTo zs k = l at *
        have g : decide (s ≤ l) = false := by simp; omega
        have g2 : decide (n ≤ s) = false := by simp; omega
        clear hh
        go_wp2_with fail
        go_round
        case rel => exact ⟨k + 1, by omega, by go_num, by rw [HL.out], HJ⟩
        case measure => simp [intOf]; omega
    · obtain rfl : k = zs.length := by omega
      have e : ok = true := by rw [← h.out]; exact rises_all hj.out
      clear h hj
      subst e
      go_wp2_with fail
      go_ret
      exact ⟨rfl, rfl⟩
end Go.Proofs.Ytkbcofgigfnfaaa.rising
