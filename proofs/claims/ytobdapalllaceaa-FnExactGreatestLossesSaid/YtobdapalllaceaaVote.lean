/- The walks of the tests of a vote: the model's and the program's, and of the sum of a list. -/
import Derived.Test.YtobdapalllaceaaPVote
import Derived.BigQuiet
import Derived.Deep.QuietTactic
namespace Go.Proofs.Ytobdapalllaceaa.vote
open Go.RowKit own pp nums range pv
set_option linter.unusedVariables false
set_option linter.unusedSimpArgs false

set_option maxRecDepth 100000 in
set_option maxHeartbeats 2000000 in
theorem spec_vote (a : Option Addr) (ws : List Int) (c : Nat) (q : Int) (w : World) (hr : ints.Reads .i64 w a ws) (hn : ws.length ≤ 1048576) (ok : Bool) (h : Hid (voteB ws q = ok)) :
    Calls Try.prog 69 #[.agg #[.slice a ws.length c, .int .i64 q]] w (RetB ok w) := by
  have HB0 := Lib.hid (below_alloc w (.cells #[.slice a ws.length c, .int .i64 q] 34))
  go_enter Try.func69, Try.ntmps69
  go_wp2_with fail
  go_loop [3, 4] (fun s i => ∃ k : Nat, k ≤ ws.length ∧ k ≤ 9 ∧ i = .int .i64 k ∧ s = .int .i64 (sumTo ws k) ∧ Hid (∀ j, j < k → inR 0 20 (ws.getD j 0) = true)) (fun _ i => ws.length - (intOf i).toNat)
  case atStart => exact ⟨0, Nat.zero_le _, by omega, rfl, rfl, Lib.hid (fun j hj => by omega)⟩
  case round =>
    obtain ⟨k, hk, hk9, rfl, rfl, hj⟩ := hrel
    have hbd := sumTo_bd (zs := ws) (m := 20) k (fun j hjk => (inR_iff _ _ _).1 (hj.out j hjk))
    by_cases hlt : k < ws.length
    · by_cases h8 : k ≤ 8
      · obtain ⟨b, off, rfl, hb, hc⟩ := hr.at hlt
        have hco : (w.alloc (.cells #[.slice (some ⟨b, off, none⟩) ws.length c, .int .i64 q] 34)).cell? ⟨b, off + k, none⟩ = some (.int .i64 (ws.getD k 0)) := cell_old _ hc
        have HSU := Lib.hid (sumTo_succ ws k)
        cases hx : inR 0 20 (ws.getD k 0)
        · have e : ok = false := by rw [← h.out]; exact vote_no_nums (all_false _ 0 ws k hlt hx)
          have HX := Lib.hid hx
          clear h hx hj
          subst e
          unfold inR at HX
          generalize ws.getD k 0 = s at *
          generalize sumTo ws k = S at *
          go_wp2_with fail
          refine (in_any _ _ _ _ false HX).mono ?_
          rintro e w' ⟨rfl, rfl⟩
          go_wp2_with fail
          go_ret
          exact ⟨rfl, HB0.out⟩
        · have HJ : Hid (∀ j, j < k + 1 → inR 0 20 (ws.getD j 0) = true) := fun j h => by
            by_cases e : j = k
            · rw [e]; exact hx
            · exact hj.out j (by omega)
          have hr2 := (inR_iff _ _ _).1 hx
          have HX := Lib.hid hx
          clear hx hj
          unfold inR at HX
          generalize ws.getD k 0 = s at *
          generalize sumTo ws k = S at *
          go_wp2_with fail
          refine (in_any _ _ _ _ true HX).mono ?_
          rintro e w' ⟨rfl, rfl⟩
          go_wp2_with fail
          go_round
          case rel => exact ⟨k + 1, by omega, by omega, by go_num, by rw [HSU.out], HJ⟩
          case measure => simp [intOf]; omega
      · obtain rfl : k = 9 := by omega
        have e : ok = false := by rw [← h.out]; exact vote_no_len (by omega)
        clear h hj
        subst e
        have HL : Hid ((decide ((1 : Int) ≤ ws.length) && decide ((ws.length : Int) ≤ 8)) = false) := Lib.hid (by rw [decide_eq_false (show ¬ (ws.length : Int) ≤ 8 by omega), Bool.and_false])
        generalize sumTo ws 9 = S at *
        go_wp2_with fail
        refine (in_any _ _ _ _ false HL).mono ?_
        rintro e w' ⟨rfl, rfl⟩
        go_wp2_with fail
        go_ret
        exact ⟨rfl, HB0.out⟩
    · obtain rfl : k = ws.length := by omega
      have hall : numsR 0 20 ws = true := all_true _ 0 ws (fun j hj' => hj.out j hj')
      by_cases h18 : 1 ≤ ws.length ∧ ws.length ≤ 8
      · have HL : Hid ((decide ((1 : Int) ≤ ws.length) && decide ((ws.length : Int) ≤ 8)) = true) := Lib.hid (by rw [decide_eq_true (show (1 : Int) ≤ ws.length by omega), decide_eq_true (show (ws.length : Int) ≤ 8 by omega)]; rfl)
        have HQ : Hid ((decide (1 ≤ q) && decide (q ≤ sumTo ws ws.length)) = ok) := Lib.hid (by rw [← h.out, vote_eq h18 hall]; rfl)
        clear h hj hall
        generalize sumTo ws ws.length = S at *
        go_wp2_with fail
        refine (in_any _ _ _ _ true HL).mono ?_
        rintro e w' ⟨rfl, rfl⟩
        go_wp2_with fail
        refine (in_any _ _ _ _ ok HQ).mono ?_
        rintro e w' ⟨rfl, rfl⟩
        go_wp2_with fail
        go_ret
        exact ⟨rfl, HB0.out⟩
      · have e : ok = false := by rw [← h.out]; exact vote_no_len h18
        have HL : Hid ((decide ((1 : Int) ≤ ws.length) && decide ((ws.length : Int) ≤ 8)) = false) := Lib.hid (by rw [Bool.and_eq_false_iff, decide_eq_false_iff_not, decide_eq_false_iff_not]; omega)
        clear h hj hall h18
        subst e
        generalize sumTo ws ws.length = S at *
        go_wp2_with fail
        refine (in_any _ _ _ _ false HL).mono ?_
        rintro e w' ⟨rfl, rfl⟩
        go_wp2_with fail
        go_ret
        exact ⟨rfl, HB0.out⟩
set_option maxHeartbeats 1000000 in
theorem sum_any (a : Option Addr) (ws : List Int) (c : Nat) (w : World) (hr : ints.Reads .i64 w a ws) (hn : ws.length ≤ 1048576) (hz : ∀ j, j < ws.length → 0 ≤ ws.getD j 0 ∧ ws.getD j 0 ≤ (1048576 : Nat)) :
    Calls Try.prog 96 #[.slice a ws.length c] w (fun e w' => e = .returned (.int .i64 (sumZ ws)) ∧ w = w') := by
  have HZ := Lib.hid hz
  clear hz
  go_enter Try.func96, Try.ntmps96
  go_wp2_with fail
  go_loop [3, 8] (fun s i => ∃ k : Nat, k ≤ ws.length ∧ i = .int .i64 k ∧ s = .int .i64 (sumTo ws k)) (fun _ i => ws.length - (intOf i).toNat)
  case atStart => exact ⟨0, Nat.zero_le _, rfl, rfl⟩
  case round =>
    obtain ⟨k, hk, rfl, rfl⟩ := hrel
    have hbd := sumTo_bd (zs := ws) k (fun j hjk => HZ.out j (by omega))
    by_cases hlt : k < ws.length
    · obtain ⟨b, off, rfl, hb, hc⟩ := hr.at hlt
      have HSU := Lib.hid (sumTo_succ ws k)
      have hz := HZ.out k hlt
      generalize ws.getD k 0 = s at *
      generalize sumTo ws k = S at *
      go_wp2_with fail
      go_round
      case rel => exact ⟨k + 1, by omega, by go_num, by rw [HSU.out]⟩
      case measure => simp [intOf]; omega
    · obtain rfl : k = ws.length := by omega
      have HS := Lib.hid (show sumTo ws ws.length = sumZ ws from rfl)
      generalize sumTo ws ws.length = S at *
      go_wp2_with fail
      go_ret
      exact ⟨by rw [← HS.out]; rfl, rfl⟩
set_option maxRecDepth 100000 in
set_option maxHeartbeats 2000000 in
theorem impl_vote (a : Option Addr) (ws : List Int) (c : Nat) (q : Int) (w : World) (hr : ints.Reads .i64 w a ws) (hn : ws.length ≤ 1048576) (ok : Bool) (h : Hid (voteB ws q = ok)) :
    Calls Try.prog 70 #[.agg #[.slice a ws.length c, .int .i64 q]] w (RetB ok w) := by
  have HB0 := Lib.hid (below_alloc w (.cells #[.slice a ws.length c, .int .i64 q] 34))
  by_cases h8 : ws.length ≤ 8
  · cases hx : numsR 0 20 ws
    · have e : ok = false := by rw [← h.out]; exact vote_no_nums hx
      have HR := Lib.hid (impl_range a ws c 20 (w.alloc (.cells #[.slice a ws.length c, .int .i64 q] 34)) (hr.below HB0.out) hn false (Lib.hid hx))
      clear h hx hr
      subst e
      go_enter Try.func70, Try.ntmps70
      go_wp2_with fail
      refine HR.out.mono ?_
      rintro e w1 ⟨rfl, hb1⟩
      have HB1 := Lib.hid (HB0.out.trans (hb1.mono (by simp)))
      clear hb1
      go_wp2_with fail
      go_ret
      exact ⟨rfl, HB1.out⟩
    · have HR := Lib.hid (impl_range a ws c 20 (w.alloc (.cells #[.slice a ws.length c, .int .i64 q] 34)) (hr.below HB0.out) hn true (Lib.hid hx))
      have hz : ∀ j, j < ws.length → 0 ≤ ws.getD j 0 ∧ ws.getD j 0 ≤ (1048576 : Nat) := fun j hj => by have := numsR_at hx j hj; omega
      have HSm := Lib.hid (fun (wa : World) (hb : Below w.heap.size w wa) => sum_any a ws c wa (hr.below hb) hn hz)
      have x0 : (w.alloc (.cells #[.slice a ws.length c, .int .i64 q] 34)).cell? ⟨w.heap.size, 0, none⟩ = some (.slice a ws.length c) := cell_new _ _ _ rfl rfl
      have x1 : (w.alloc (.cells #[.slice a ws.length c, .int .i64 q] 34)).cell? ⟨w.heap.size, 1, none⟩ = some (.int .i64 q) := cell_new _ _ _ rfl rfl
      have HE : Hid (ok = (decide (1 ≤ q) && decide (q ≤ sumZ ws))) := Lib.hid (by
        rw [← h.out]
        by_cases h1 : 1 ≤ ws.length
        · exact vote_eq ⟨h1, h8⟩ hx
        · obtain rfl : ws = [] := List.length_eq_zero_iff.1 (by omega)
          rw [vote_no_len (by simp)]
          show false = (decide (1 ≤ q) && decide (q ≤ 0))
          symm
          rw [Bool.and_eq_false_iff, decide_eq_false_iff_not, decide_eq_false_iff_not]; omega)
      clear h hx hr hz
      generalize sumZ ws = S at *
      have hs0 : w.heap.size < (w.alloc (.cells #[.slice a ws.length c, .int .i64 q] 34)).heap.size := by simp
      by_cases g1 : 1 ≤ q
      · by_cases g2 : q ≤ S
        all_goals
          have e1 : decide (1 ≤ q) = true := decide_eq_true g1
          first
          | have e2 : decide (q ≤ S) = true := decide_eq_true g2
          | have e2 : decide (q ≤ S) = false := decide_eq_false g2
          rw [e1, e2] at HE
          have e := HE.out
          simp only [Bool.and_true, Bool.and_false, Bool.true_and] at e
          clear HE
          subst e
          go_enter Try.func70, Try.ntmps70
          go_wp2_with fail
          refine HR.out.mono ?_
          rintro e w1 ⟨rfl, hb1⟩
          have y0 := cell_below hb1 x0 hs0
          have y1 := cell_below hb1 x1 hs0
          have HB1 := Lib.hid (HB0.out.trans (hb1.mono (by simp)))
          have hs1 : w.heap.size < w1.heap.size := Nat.lt_of_lt_of_le hs0 hb1.size
          have HQ := Lib.hid (fun (m : Nat) => Calls.quiet_of_same ((HSm.out (w1.drewN m) (ints.below_drewN HB1.out m)).mono (fun e w' h => ⟨h.1, h.2.symm⟩)))
          clear hb1 x0 x1 HR HSm
          go_wp2_with fail
          go_quiet ((go_at_call 96; exact HQ.out _))
          go_wp2_with fail
          go_ret
          exact ⟨rfl, ints.below_drewN HB1.out _⟩
      · have e1 : decide (1 ≤ q) = false := decide_eq_false g1
        rw [e1] at HE
        have e : ok = false := HE.out
        clear HE
        subst e
        go_enter Try.func70, Try.ntmps70
        go_wp2_with fail
        refine HR.out.mono ?_
        rintro e w1 ⟨rfl, hb1⟩
        have y0 := cell_below hb1 x0 hs0
        have y1 := cell_below hb1 x1 hs0
        have HB1 := Lib.hid (HB0.out.trans (hb1.mono (by simp)))
        clear hb1 x0 x1 HR HSm
        go_wp2_with fail
        go_quiet (fail)
        go_wp2_with fail
        go_ret
        exact ⟨rfl, ints.below_drewN HB1.out _⟩
  · have e : ok = false := by rw [← h.out]; exact vote_no_len (by omega)
    clear h
    subst e
    go_enter Try.func70, Try.ntmps70
    go_wp2_with fail
    go_ret
    exact ⟨rfl, HB0.out⟩
end Go.Proofs.Ytobdapalllaceaa.vote
