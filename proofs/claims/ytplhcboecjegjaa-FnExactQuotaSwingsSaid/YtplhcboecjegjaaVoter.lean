/- The walks of the tests of a voter, and of keeping a valid vote: the model's and the program's. -/
import Derived.Test.YtplhcboecjegjaaVote
import Derived.Test.YtplhcboecjegjaaVoteFns
namespace Go.Proofs.Ytplhcboecjegjaa.voter
open Go.RowKit own pp nums pv
set_option linter.unusedVariables false
set_option linter.unusedSimpArgs false

/-- A voter of a valid vote. -/
def voterB (ws : List Int) (q : Int) (i : Int) : Bool := voteB ws q && (decide (0 ≤ i) && decide (i ≤ (ws.length : Int) - 1))
theorem voter_iff (ws : List Int) (q i : Int) : voterB ws q i = true ↔ voteB ws q = true ∧ 0 ≤ i ∧ i < (ws.length : Int) := by
  unfold voterB
  rw [Bool.and_eq_true, Bool.and_eq_true, decide_eq_true_eq, decide_eq_true_eq]
  constructor <;> rintro ⟨h1, h2, h3⟩ <;> exact ⟨h1, h2, by omega⟩
set_option maxRecDepth 100000 in
set_option maxHeartbeats 4000000 in
theorem spec_voter (a : Option Addr) (ws : List Int) (c : Nat) (q : Int) (w : World) (hr : ints.Reads .i64 w a ws) (hn : ws.length ≤ 1048576) (i : Int) (ok : Bool) (h : Hid (voterB ws q i = ok)) :
    Calls Try.prog 70 #[.agg #[.slice a ws.length c, .int .i64 q], .int .i64 i] w (RetB ok w) := by
  cases hv : voteB ws q
  · obtain rfl : ok = false := by rw [← h.out]; unfold voterB; rw [hv]; rfl
    have HV := Lib.hid (fun (wa : World) (hb : Below w.heap.size w wa) => vote.spec_vote a ws c q wa (hr.below hb) hn false (Lib.hid hv))
    clear hr h hv
    go_enter Try.func70, Try.ntmps70
    obtain ⟨w0, hw0⟩ : ∃ w0 : World, w0 = w.alloc (.cells #[.slice a ws.length c, .int .i64 q] 29) := ⟨_, rfl⟩
    have x0 : w0.cell? ⟨w.heap.size, 0, none⟩ = some (.slice a ws.length c) := by rw [hw0]; exact cell_new _ _ _ rfl rfl
    have x1 : w0.cell? ⟨w.heap.size, 1, none⟩ = some (.int .i64 q) := by rw [hw0]; exact cell_new _ _ _ rfl rfl
    have HB0 := Lib.hid (show Below w.heap.size w w0 by rw [hw0]; exact below_alloc w (.cells #[.slice a ws.length c, .int .i64 q] 29))
    have s0 : w.heap.size + 1 ≤ w0.heap.size := by rw [hw0]; simp
    go_wp2_with fail
    rw [← hw0]
    clear hw0
    refine (HV.out _ HB0.out).mono ?_
    rintro e w1 ⟨rfl, hb1⟩
    have y0 := cell_below hb1 x0 (by omega)
    have HB1 := Lib.hid (HB0.out.trans (hb1.mono (by omega)))
    clear hb1 x0 x1 HV
    go_wp2_with fail
    go_ret
    exact ⟨rfl, HB1.out⟩
  · have HX := Lib.hid (show (decide (0 ≤ i) && decide (i ≤ (ws.length : Int) - 1)) = ok by rw [← h.out]; unfold voterB; rw [hv]; rfl)
    have HV := Lib.hid (fun (wa : World) (hb : Below w.heap.size w wa) => vote.spec_vote a ws c q wa (hr.below hb) hn true (Lib.hid hv))
    clear hr h hv
    go_enter Try.func70, Try.ntmps70
    obtain ⟨w0, hw0⟩ : ∃ w0 : World, w0 = w.alloc (.cells #[.slice a ws.length c, .int .i64 q] 29) := ⟨_, rfl⟩
    have x0 : w0.cell? ⟨w.heap.size, 0, none⟩ = some (.slice a ws.length c) := by rw [hw0]; exact cell_new _ _ _ rfl rfl
    have x1 : w0.cell? ⟨w.heap.size, 1, none⟩ = some (.int .i64 q) := by rw [hw0]; exact cell_new _ _ _ rfl rfl
    have HB0 := Lib.hid (show Below w.heap.size w w0 by rw [hw0]; exact below_alloc w (.cells #[.slice a ws.length c, .int .i64 q] 29))
    have s0 : w.heap.size + 1 ≤ w0.heap.size := by rw [hw0]; simp
    go_wp2_with fail
    rw [← hw0]
    clear hw0
    refine (HV.out _ HB0.out).mono ?_
    rintro e w1 ⟨rfl, hb1⟩
    have y0 := cell_below hb1 x0 (by omega)
    have HB1 := Lib.hid (HB0.out.trans (hb1.mono (by omega)))
    clear hb1 x0 x1 HV
    go_wp2_with fail
    refine (in_any _ _ _ _ ok HX).mono ?_
    rintro e w' ⟨rfl, rfl⟩
    go_wp2_with fail
    go_ret
    exact ⟨rfl, HB1.out⟩
set_option maxRecDepth 100000 in
set_option maxHeartbeats 4000000 in
theorem impl_voter (a : Option Addr) (ws : List Int) (c : Nat) (q : Int) (w : World) (hr : ints.Reads .i64 w a ws) (hn : ws.length ≤ 1048576) (i : Int) (ok : Bool) (h : Hid (voterB ws q i = ok)) :
    Calls Try.prog 73 #[.agg #[.slice a ws.length c, .int .i64 q], .int .i64 i] w (RetB ok w) := by
  cases hv : voteB ws q
  · obtain rfl : ok = false := by rw [← h.out]; unfold voterB; rw [hv]; rfl
    have HV := Lib.hid (fun (wa : World) (hb : Below w.heap.size w wa) => vote.impl_vote a ws c q wa (hr.below hb) hn false (Lib.hid hv))
    clear hr h hv
    go_enter Try.func73, Try.ntmps73
    obtain ⟨w0, hw0⟩ : ∃ w0 : World, w0 = w.alloc (.cells #[.slice a ws.length c, .int .i64 q] 29) := ⟨_, rfl⟩
    have x0 : w0.cell? ⟨w.heap.size, 0, none⟩ = some (.slice a ws.length c) := by rw [hw0]; exact cell_new _ _ _ rfl rfl
    have x1 : w0.cell? ⟨w.heap.size, 1, none⟩ = some (.int .i64 q) := by rw [hw0]; exact cell_new _ _ _ rfl rfl
    have HB0 := Lib.hid (show Below w.heap.size w w0 by rw [hw0]; exact below_alloc w (.cells #[.slice a ws.length c, .int .i64 q] 29))
    have s0 : w.heap.size + 1 ≤ w0.heap.size := by rw [hw0]; simp
    go_wp2_with fail
    rw [← hw0]
    clear hw0
    refine (HV.out _ HB0.out).mono ?_
    rintro e w1 ⟨rfl, hb1⟩
    have y0 := cell_below hb1 x0 (by omega)
    have HB1 := Lib.hid (HB0.out.trans (hb1.mono (by omega)))
    clear hb1 x0 x1 HV
    go_wp2_with fail
    go_ret
    exact ⟨rfl, HB1.out⟩
  · by_cases h0 : 0 ≤ i
    · by_cases h1 : i < (ws.length : Int)
      · obtain rfl : ok = true := by rw [← h.out]; exact (voter_iff _ _ _).2 ⟨hv, h0, h1⟩
        have HV := Lib.hid (fun (wa : World) (hb : Below w.heap.size w wa) => vote.impl_vote a ws c q wa (hr.below hb) hn true (Lib.hid hv))
        clear hr h hv
        go_enter Try.func73, Try.ntmps73
        obtain ⟨w0, hw0⟩ : ∃ w0 : World, w0 = w.alloc (.cells #[.slice a ws.length c, .int .i64 q] 29) := ⟨_, rfl⟩
        have x0 : w0.cell? ⟨w.heap.size, 0, none⟩ = some (.slice a ws.length c) := by rw [hw0]; exact cell_new _ _ _ rfl rfl
        have x1 : w0.cell? ⟨w.heap.size, 1, none⟩ = some (.int .i64 q) := by rw [hw0]; exact cell_new _ _ _ rfl rfl
        have HB0 := Lib.hid (show Below w.heap.size w w0 by rw [hw0]; exact below_alloc w (.cells #[.slice a ws.length c, .int .i64 q] 29))
        have s0 : w.heap.size + 1 ≤ w0.heap.size := by rw [hw0]; simp
        go_wp2_with fail
        rw [← hw0]
        clear hw0
        refine (HV.out _ HB0.out).mono ?_
        rintro e w1 ⟨rfl, hb1⟩
        have y0 := cell_below hb1 x0 (by omega)
        have HB1 := Lib.hid (HB0.out.trans (hb1.mono (by omega)))
        clear hb1 x0 x1 HV
        go_wp2_with fail
        go_ret
        exact ⟨rfl, HB1.out⟩
      · obtain rfl : ok = false := by
          rw [← h.out]
          cases hx : voterB ws q i
          · rfl
          · have := (voter_iff _ _ _).1 hx; omega
        have g1 : decide (i < (ws.length : Int)) = false := decide_eq_false h1
        have HV := Lib.hid (fun (wa : World) (hb : Below w.heap.size w wa) => vote.impl_vote a ws c q wa (hr.below hb) hn true (Lib.hid hv))
        clear hr h hv
        go_enter Try.func73, Try.ntmps73
        obtain ⟨w0, hw0⟩ : ∃ w0 : World, w0 = w.alloc (.cells #[.slice a ws.length c, .int .i64 q] 29) := ⟨_, rfl⟩
        have x0 : w0.cell? ⟨w.heap.size, 0, none⟩ = some (.slice a ws.length c) := by rw [hw0]; exact cell_new _ _ _ rfl rfl
        have x1 : w0.cell? ⟨w.heap.size, 1, none⟩ = some (.int .i64 q) := by rw [hw0]; exact cell_new _ _ _ rfl rfl
        have HB0 := Lib.hid (show Below w.heap.size w w0 by rw [hw0]; exact below_alloc w (.cells #[.slice a ws.length c, .int .i64 q] 29))
        have s0 : w.heap.size + 1 ≤ w0.heap.size := by rw [hw0]; simp
        go_wp2_with fail
        rw [← hw0]
        clear hw0
        refine (HV.out _ HB0.out).mono ?_
        rintro e w1 ⟨rfl, hb1⟩
        have y0 := cell_below hb1 x0 (by omega)
        have HB1 := Lib.hid (HB0.out.trans (hb1.mono (by omega)))
        clear hb1 x0 x1 HV
        go_wp2_with fail
        go_ret
        exact ⟨rfl, HB1.out⟩
    · obtain rfl : ok = false := by
        rw [← h.out]
        cases hx : voterB ws q i
        · rfl
        · have := (voter_iff _ _ _).1 hx; omega
      have HV := Lib.hid (fun (wa : World) (hb : Below w.heap.size w wa) => vote.impl_vote a ws c q wa (hr.below hb) hn true (Lib.hid hv))
      clear hr h hv
      go_enter Try.func73, Try.ntmps73
      obtain ⟨w0, hw0⟩ : ∃ w0 : World, w0 = w.alloc (.cells #[.slice a ws.length c, .int .i64 q] 29) := ⟨_, rfl⟩
      have x0 : w0.cell? ⟨w.heap.size, 0, none⟩ = some (.slice a ws.length c) := by rw [hw0]; exact cell_new _ _ _ rfl rfl
      have x1 : w0.cell? ⟨w.heap.size, 1, none⟩ = some (.int .i64 q) := by rw [hw0]; exact cell_new _ _ _ rfl rfl
      have HB0 := Lib.hid (show Below w.heap.size w w0 by rw [hw0]; exact below_alloc w (.cells #[.slice a ws.length c, .int .i64 q] 29))
      have s0 : w.heap.size + 1 ≤ w0.heap.size := by rw [hw0]; simp
      go_wp2_with fail
      rw [← hw0]
      clear hw0
      refine (HV.out _ HB0.out).mono ?_
      rintro e w1 ⟨rfl, hb1⟩
      have y0 := cell_below hb1 x0 (by omega)
      have HB1 := Lib.hid (HB0.out.trans (hb1.mono (by omega)))
      clear hb1 x0 x1 HV
      go_wp2_with fail
      go_ret
      exact ⟨rfl, HB1.out⟩
end Go.Proofs.Ytplhcboecjegjaa.voter
