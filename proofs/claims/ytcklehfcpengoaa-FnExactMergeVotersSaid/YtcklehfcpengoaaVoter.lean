/- The walks of the tests of a voter, and of keeping a valid vote: the model's and the program's. -/
import Derived.Test.YtcklehfcpengoaaVote
import Derived.Test.YtcklehfcpengoaaVoteFns
namespace Go.Proofs.Ytcklehfcpengoaa.voter
open Go.RowKit own pp nums pv
set_option linter.unusedVariables false
set_option linter.unusedSimpArgs false

/-- A voter of a valid vote. -/
def voterB (ws : List Int) (q : Int) (i : Int) : Bool := voteB ws q && (decide (0 ≤ i) && decide (i ≤ (ws.length : Int) - 1))
theorem voter_iff (ws : List Int) (q i : Int) : voterB ws q i = true ↔ voteB ws q = true ∧ 0 ≤ i ∧ i < (ws.length : Int) := by
  unfold voterB
  rw [Bool.and_eq_true, Bool.and_eq_true, decide_eq_true_eq, decide_eq_true_eq]
  constructor <;> rintro ⟨h1, h2, h3⟩ <;> exact ⟨h1, h2, by omega⟩
set_option maxRecDepth 100000 in
set_option maxHeartbeats 4000000 in
theorem spec_voter (a : Option Addr) (ws : List Int) (c : Nat) (q : Int) (w : World) (hr : ints.Reads .i64 w a ws) (hn : ws.length ≤ 1048576) (i : Int) (ok : Bool) (h : Hid (voterB ws q i = ok)) :
    Calls Try.prog 59 #[.agg #[.slice a ws.length c, .int .i64 q], .int .i64 i] w (RetB ok w) := by
  cases hv : voteB ws q
  · obtain rfl : ok = false := by rw [← h.out]; unfold voterB; rw [hv]; rfl
    have HV := Lib.hid (fun (wa : World) (hb : Below w.heap.size w wa) => vote.spec_vote a ws c q wa (hr.below hb) hn false (Lib.hid hv))
    clear hr h hv
    go_enter Try.func59, Try.ntmps59
    obtain ⟨w0, hw0⟩ : ∃ w0 : World, w0 = w.alloc (.cells #[.slice a ws.length c, .int .i64 q] 27) := ⟨_, rfl⟩
    have x0 : w0.cell? ⟨w.heap.size, 0, none⟩ = some (.slice a ws.length c) := by rw [hw0]; exact cell_new _ _ _ rfl rfl
    have x1 : w0.cell? ⟨w.heap.size, 1, none⟩ = some (.int .i64 q) := by rw [hw0]; exact cell_new _ _ _ rfl rfl
    have HB0 := Lib.hid (show Below w.heap.size w w0 by rw [hw0]; exact below_alloc w (.cells #[.slice a ws.length c, .int .i64 q] 27))
    have s0 : w.heap.size + 1 ≤ w0.heap.size := by rw [hw0]; simp
    go_wp2_with fail
    rw [← hw0]
    clear hw0
    refine (HV.out _ HB0.out).mono ?_
    rintro e w1 ⟨rfl, hb1⟩
    have y0 := cell_below hb1 x0 (by omega)
    have HB1 := Lib.hid (HB0.out.trans (hb1.mono (by omega)))
    clear hb1 x0 x1 HV
    go_wp2_with fail
    go_ret
    exact ⟨rfl, HB1.out⟩
  · have HX := Lib.hid (show (decide (0 ≤ i) && decide (i ≤ (ws.length : Int) - 1)) = ok by rw [← h.out]; unfold voterB; rw [hv]; rfl)
    have HV := Lib.hid (fun (wa : World) (hb : Below w.heap.size w wa) => vote.spec_vote a ws c q wa (hr.below hb) hn true (Lib.hid hv))
    clear hr h hv
    go_enter Try.func59, Try.ntmps59
    obtain ⟨w0, hw0⟩ : ∃ w0 : World, w0 = w.alloc (.cells #[.slice a ws.length c, .int .i64 q] 27) := ⟨_, rfl⟩
    have x0 : w0.cell? ⟨w.heap.size, 0, none⟩ = some (.slice a ws.length c) := by rw [hw0]; exact cell_new _ _ _ rfl rfl
    have x1 : w0.cell? ⟨w.heap.size, 1, none⟩ = some (.int .i64 q) := by rw [hw0]; exact cell_new _ _ _ rfl rfl
    have HB0 := Lib.hid (show Below w.heap.size w w0 by rw [hw0]; exact below_alloc w (.cells #[.slice a ws.length c, .int .i64 q] 27))
    have s0 : w.heap.size + 1 ≤ w0.heap.size := by rw [hw0]; simp
    go_wp2_with fail
    rw [← hw0]
    clear hw0
    refine (HV.out _ HB0.out).mono ?_
    rintro e w1 ⟨rfl, hb1⟩
    have y0 := cell_below hb1 x0 (by omega)
    have HB1 := Lib.hid (HB0.out.trans (hb1.mono (by omega)))
    clear hb1 x0 x1 HV
    go_wp2_with fail
    refine (in_any _ _ _ _ ok HX).mono ?_
    rintro e w' ⟨rfl, rfl⟩
    go_wp2_with fail
    go_ret
    exact ⟨rfl, HB1.out⟩
set_option maxRecDepth 100000 in
set_option maxHeartbeats 4000000 in
theorem impl_voter (a : Option Addr) (ws : List Int) (c : Nat) (q : Int) (w : World) (hr : ints.Reads .i64 w a ws) (hn : ws.length ≤ 1048576) (i : Int) (ok : Bool) (h : Hid (voterB ws q i = ok)) :
    Calls Try.prog 61 #[.agg #[.slice a ws.length c, .int .i64 q], .int .i64 i] w (RetB ok w) := by
  cases hv : voteB ws q
  · obtain rfl : ok = false := by rw [← h.out]; unfold voterB; rw [hv]; rfl
    have HV := Lib.hid (fun (wa : World) (hb : Below w.heap.size w wa) => vote.impl_vote a ws c q wa (hr.below hb) hn false (Lib.hid hv))
    clear hr h hv
    go_enter Try.func61, Try.ntmps61
    obtain ⟨w0, hw0⟩ : ∃ w0 : World, w0 = w.alloc (.cells #[.slice a ws.length c, .int .i64 q] 27) := ⟨_, rfl⟩
    have x0 : w0.cell? ⟨w.heap.size, 0, none⟩ = some (.slice a ws.length c) := by rw [hw0]; exact cell_new _ _ _ rfl rfl
    have x1 : w0.cell? ⟨w.heap.size, 1, none⟩ = some (.int .i64 q) := by rw [hw0]; exact cell_new _ _ _ rfl rfl
    have HB0 := Lib.hid (show Below w.heap.size w w0 by rw [hw0]; exact below_alloc w (.cells #[.slice a ws.length c, .int .i64 q] 27))
    have s0 : w.heap.size + 1 ≤ w0.heap.size := by rw [hw0]; simp
    go_wp2_with fail
    rw [← hw0]
    clear hw0
    refine (HV.out _ HB0.out).mono ?_
    rintro e w1 ⟨rfl, hb1⟩
    have y0 := cell_below hb1 x0 (by omega)
    have HB1 := Lib.hid (HB0.out.trans (hb1.mono (by omega)))
    clear hb1 x0 x1 HV
    go_wp2_with fail
    go_ret
    exact ⟨rfl, HB1.out⟩
  · by_cases h0 : 0 ≤ i
    · by_cases h1 : i < (ws.length : Int)
      · obtain rfl : ok = true := by rw [← h.out]; exact (voter_iff _ _ _).2 ⟨hv, h0, h1⟩
        have HV := Lib.hid (fun (wa : World) (hb : Below w.heap.size w wa) => vote.impl_vote a ws c q wa (hr.below hb) hn true (Lib.hid hv))
        clear hr h hv
        go_enter Try.func61, Try.ntmps61
        obtain ⟨w0, hw0⟩ : ∃ w0 : World, w0 = w.alloc (.cells #[.slice a ws.length c, .int .i64 q] 27) := ⟨_, rfl⟩
        have x0 : w0.cell? ⟨w.heap.size, 0, none⟩ = some (.slice a ws.length c) := by rw [hw0]; exact cell_new _ _ _ rfl rfl
        have x1 : w0.cell? ⟨w.heap.size, 1, none⟩ = some (.int .i64 q) := by rw [hw0]; exact cell_new _ _ _ rfl rfl
        have HB0 := Lib.hid (show Below w.heap.size w w0 by rw [hw0]; exact below_alloc w (.cells #[.slice a ws.length c, .int .i64 q] 27))
        have s0 : w.heap.size + 1 ≤ w0.heap.size := by rw [hw0]; simp
        go_wp2_with fail
        rw [← hw0]
        clear hw0
        refine (HV.out _ HB0.out).mono ?_
        rintro e w1 ⟨rfl, hb1⟩
        have y0 := cell_below hb1 x0 (by omega)
        have HB1 := Lib.hid (HB0.out.trans (hb1.mono (by omega)))
        clear hb1 x0 x1 HV
        go_wp2_with fail
        go_ret
        exact ⟨rfl, HB1.out⟩
      · obtain rfl : ok = false := by
          rw [← h.out]
          cases hx : voterB ws q i
          · rfl
          · have := (voter_iff _ _ _).1 hx; omega
        have g1 : decide (i < (ws.length : Int)) = false := decide_eq_false h1
        have HV := Lib.hid (fun (wa : World) (hb : Below w.heap.size w wa) => vote.impl_vote a ws c q wa (hr.below hb) hn true (Lib.hid hv))
        clear hr h hv
        go_enter Try.func61, Try.ntmps61
        obtain ⟨w0, hw0⟩ : ∃ w0 : World, w0 = w.alloc (.cells #[.slice a ws.length c, .int .i64 q] 27) := ⟨_, rfl⟩
        have x0 : w0.cell? ⟨w.heap.size, 0, none⟩ = some (.slice a ws.length c) := by rw [hw0]; exact cell_new _ _ _ rfl rfl
        have x1 : w0.cell? ⟨w.heap.size, 1, none⟩ = some (.int .i64 q) := by rw [hw0]; exact cell_new _ _ _ rfl rfl
        have HB0 := Lib.hid (show Below w.heap.size w w0 by rw [hw0]; exact below_alloc w (.cells #[.slice a ws.length c, .int .i64 q] 27))
        have s0 : w.heap.size + 1 ≤ w0.heap.size := by rw [hw0]; simp
        go_wp2_with fail
        rw [← hw0]
        clear hw0
        refine (HV.out _ HB0.out).mono ?_
        rintro e w1 ⟨rfl, hb1⟩
        have y0 := cell_below hb1 x0 (by omega)
        have HB1 := Lib.hid (HB0.out.trans (hb1.mono (by omega)))
        clear hb1 x0 x1 HV
        go_wp2_with fail
        go_ret
        exact ⟨rfl, HB1.out⟩
    · obtain rfl : ok = false := by
        rw [← h.out]
        cases hx : voterB ws q i
        · rfl
        · have := (voter_iff _ _ _).1 hx; omega
      have HV := Lib.hid (fun (wa : World) (hb : Below w.heap.size w wa) => vote.impl_vote a ws c q wa (hr.below hb) hn true (Lib.hid hv))
      clear hr h hv
      go_enter Try.func61, Try.ntmps61
      obtain ⟨w0, hw0⟩ : ∃ w0 : World, w0 = w.alloc (.cells #[.slice a ws.length c, .int .i64 q] 27) := ⟨_, rfl⟩
      have x0 : w0.cell? ⟨w.heap.size, 0, none⟩ = some (.slice a ws.length c) := by rw [hw0]; exact cell_new _ _ _ rfl rfl
      have x1 : w0.cell? ⟨w.heap.size, 1, none⟩ = some (.int .i64 q) := by rw [hw0]; exact cell_new _ _ _ rfl rfl
      have HB0 := Lib.hid (show Below w.heap.size w w0 by rw [hw0]; exact below_alloc w (.cells #[.slice a ws.length c, .int .i64 q] 27))
      have s0 : w.heap.size + 1 ≤ w0.heap.size := by rw [hw0]; simp
      go_wp2_with fail
      rw [← hw0]
      clear hw0
      refine (HV.out _ HB0.out).mono ?_
      rintro e w1 ⟨rfl, hb1⟩
      have y0 := cell_below hb1 x0 (by omega)
      have HB1 := Lib.hid (HB0.out.trans (hb1.mono (by omega)))
      clear hb1 x0 x1 HV
      go_wp2_with fail
      go_ret
      exact ⟨rfl, HB1.out⟩
set_option maxRecDepth 100000 in
set_option maxHeartbeats 4000000 in
theorem spec_kept_no (a : Option Addr) (ws : List Int) (c : Nat) (q : Int) (w : World) (hr : ints.Reads .i64 w a ws) (hn : ws.length ≤ 1048576) (h : Hid (voteB ws q = false)) :
    Calls Try.prog 60 #[.agg #[.slice a ws.length c, .int .i64 q]] w (fun e w' => e = .returned (.tuple #[.agg #[.slice none 0 0, .int .i64 0], .bool false]) ∧ Below w.heap.size w w') := by
  have Hhr := Lib.hid hr
  clear hr
  go_enter Try.func60, Try.ntmps60
  go_wp2_with fail
  have x0_0 : (w.alloc (.cells #[.slice a ws.length c, .int .i64 q] 27)).cell? ⟨w.heap.size, 0, none⟩ = some (.slice a ws.length c) := cell_new _ _ _ (by simp) rfl
  have x0_1 : (w.alloc (.cells #[.slice a ws.length c, .int .i64 q] 27)).cell? ⟨w.heap.size, 1, none⟩ = some (.int .i64 q) := cell_new _ _ _ (by simp) rfl
  have HB0 := Lib.hid (below_alloc w (.cells #[.slice a ws.length c, .int .i64 q] 27))
  replace x0_0 := cell_old (.cells #[.slice none 0 0, .int .i64 0] 27) x0_0
  replace x0_1 := cell_old (.cells #[.slice none 0 0, .int .i64 0] 27) x0_1
  have x1_0 : ((w.alloc (.cells #[.slice a ws.length c, .int .i64 q] 27)).alloc (.cells #[.slice none 0 0, .int .i64 0] 27)).cell? ⟨w.heap.size + 1, 0, none⟩ = some (.slice none 0 0) := cell_new _ _ _ (by simp) rfl
  have x1_1 : ((w.alloc (.cells #[.slice a ws.length c, .int .i64 q] 27)).alloc (.cells #[.slice none 0 0, .int .i64 0] 27)).cell? ⟨w.heap.size + 1, 1, none⟩ = some (.int .i64 0) := cell_new _ _ _ (by simp) rfl
  have f1_0 : ((w.alloc (.cells #[.slice a ws.length c, .int .i64 q] 27)).alloc (.cells #[.slice none 0 0, .int .i64 0] 27)).frozen? ⟨w.heap.size + 1, 0, none⟩ = false := fro_new _ _ _ (by simp)
  have f1_1 : ((w.alloc (.cells #[.slice a ws.length c, .int .i64 q] 27)).alloc (.cells #[.slice none 0 0, .int .i64 0] 27)).frozen? ⟨w.heap.size + 1, 1, none⟩ = false := fro_new _ _ _ (by simp)
  replace HB0 := Lib.hid (HB0.out.alloc (by simp) (.cells #[.slice none 0 0, .int .i64 0] 27))
  have s0 : w.heap.size + 2 ≤ ((w.alloc (.cells #[.slice a ws.length c, .int .i64 q] 27)).alloc (.cells #[.slice none 0 0, .int .i64 0] 27)).heap.size := by simp
  generalize hw : ((w.alloc (.cells #[.slice a ws.length c, .int .i64 q] 27)).alloc (.cells #[.slice none 0 0, .int .i64 0] 27)) = w0 at *
  clear hw
  have n0_0 : w.heap.size < w0.heap.size := by omega
  have n0_1 : w.heap.size + 1 < w0.heap.size := by omega
  refine (vote.spec_vote a ws c q _ (Hhr.out.below HB0.out) hn false h).mono ?_
  rintro e w1 ⟨rfl, hb⟩
  have s1 : w0.heap.size ≤ w1.heap.size := hb.size
  have n1_0 : w.heap.size < w1.heap.size := by omega
  have n1_1 : w.heap.size + 1 < w1.heap.size := by omega
  replace x0_0 := cell_below hb x0_0 (by omega)
  replace x0_1 := cell_below hb x0_1 (by omega)
  replace x1_0 := cell_below hb x1_0 (by omega)
  replace x1_1 := cell_below hb x1_1 (by omega)
  replace f1_0 := fro_below hb f1_0 (by omega)
  replace f1_1 := fro_below hb f1_1 (by omega)
  have HB1 := Lib.hid (HB0.out.trans (hb.mono (by omega)))
  clear hb
  go_wp2_with fail
  refine bodyPost_ret (v := .tuple #[.agg #[.slice none 0 0, .int .i64 0], .bool false]) (by simp [results, Try.results60, go_sem, x1_0, x1_1]) rfl ⟨rfl, ?_⟩
  exact ((HB1.out.setCell (by simp) _).setCell (by simp) _)
set_option maxRecDepth 100000 in
set_option maxHeartbeats 4000000 in
theorem spec_kept_yes (a : Option Addr) (ws : List Int) (c : Nat) (q : Int) (w : World) (hr : ints.Reads .i64 w a ws) (hn : ws.length ≤ 1048576) (h : Hid (voteB ws q = true)) :
    Calls Try.prog 60 #[.agg #[.slice a ws.length c, .int .i64 q]] w (fun e w' => e = .returned (.tuple #[.agg #[.slice a ws.length c, .int .i64 q], .bool true]) ∧ Below w.heap.size w w') := by
  have Hhr := Lib.hid hr
  clear hr
  go_enter Try.func60, Try.ntmps60
  go_wp2_with fail
  have x0_0 : (w.alloc (.cells #[.slice a ws.length c, .int .i64 q] 27)).cell? ⟨w.heap.size, 0, none⟩ = some (.slice a ws.length c) := cell_new _ _ _ (by simp) rfl
  have x0_1 : (w.alloc (.cells #[.slice a ws.length c, .int .i64 q] 27)).cell? ⟨w.heap.size, 1, none⟩ = some (.int .i64 q) := cell_new _ _ _ (by simp) rfl
  have HB0 := Lib.hid (below_alloc w (.cells #[.slice a ws.length c, .int .i64 q] 27))
  replace x0_0 := cell_old (.cells #[.slice none 0 0, .int .i64 0] 27) x0_0
  replace x0_1 := cell_old (.cells #[.slice none 0 0, .int .i64 0] 27) x0_1
  have x1_0 : ((w.alloc (.cells #[.slice a ws.length c, .int .i64 q] 27)).alloc (.cells #[.slice none 0 0, .int .i64 0] 27)).cell? ⟨w.heap.size + 1, 0, none⟩ = some (.slice none 0 0) := cell_new _ _ _ (by simp) rfl
  have x1_1 : ((w.alloc (.cells #[.slice a ws.length c, .int .i64 q] 27)).alloc (.cells #[.slice none 0 0, .int .i64 0] 27)).cell? ⟨w.heap.size + 1, 1, none⟩ = some (.int .i64 0) := cell_new _ _ _ (by simp) rfl
  have f1_0 : ((w.alloc (.cells #[.slice a ws.length c, .int .i64 q] 27)).alloc (.cells #[.slice none 0 0, .int .i64 0] 27)).frozen? ⟨w.heap.size + 1, 0, none⟩ = false := fro_new _ _ _ (by simp)
  have f1_1 : ((w.alloc (.cells #[.slice a ws.length c, .int .i64 q] 27)).alloc (.cells #[.slice none 0 0, .int .i64 0] 27)).frozen? ⟨w.heap.size + 1, 1, none⟩ = false := fro_new _ _ _ (by simp)
  replace HB0 := Lib.hid (HB0.out.alloc (by simp) (.cells #[.slice none 0 0, .int .i64 0] 27))
  have s0 : w.heap.size + 2 ≤ ((w.alloc (.cells #[.slice a ws.length c, .int .i64 q] 27)).alloc (.cells #[.slice none 0 0, .int .i64 0] 27)).heap.size := by simp
  generalize hw : ((w.alloc (.cells #[.slice a ws.length c, .int .i64 q] 27)).alloc (.cells #[.slice none 0 0, .int .i64 0] 27)) = w0 at *
  clear hw
  have n0_0 : w.heap.size < w0.heap.size := by omega
  have n0_1 : w.heap.size + 1 < w0.heap.size := by omega
  refine (vote.spec_vote a ws c q _ (Hhr.out.below HB0.out) hn true h).mono ?_
  rintro e w1 ⟨rfl, hb⟩
  have s1 : w0.heap.size ≤ w1.heap.size := hb.size
  have n1_0 : w.heap.size < w1.heap.size := by omega
  have n1_1 : w.heap.size + 1 < w1.heap.size := by omega
  replace x0_0 := cell_below hb x0_0 (by omega)
  replace x0_1 := cell_below hb x0_1 (by omega)
  replace x1_0 := cell_below hb x1_0 (by omega)
  replace x1_1 := cell_below hb x1_1 (by omega)
  replace f1_0 := fro_below hb f1_0 (by omega)
  replace f1_1 := fro_below hb f1_1 (by omega)
  have HB1 := Lib.hid (HB0.out.trans (hb.mono (by omega)))
  clear hb
  go_wp2_with fail
  refine bodyPost_ret (v := .tuple #[.agg #[.slice a ws.length c, .int .i64 q], .bool true]) (by simp [results, Try.results60, go_sem, x1_0, x1_1, f1_0, f1_1]) rfl ⟨rfl, ?_⟩
  exact ((HB1.out.setCell (by simp) _).setCell (by simp) _)
set_option maxRecDepth 100000 in
set_option maxHeartbeats 4000000 in
theorem impl_kept_no (a : Option Addr) (ws : List Int) (c : Nat) (q : Int) (w : World) (hr : ints.Reads .i64 w a ws) (hn : ws.length ≤ 1048576) (h : Hid (voteB ws q = false)) :
    Calls Try.prog 62 #[.agg #[.slice a ws.length c, .int .i64 q]] w (fun e w' => e = .returned (.tuple #[.agg #[.slice none 0 0, .int .i64 0], .bool false]) ∧ Below w.heap.size w w') := by
  have Hhr := Lib.hid hr
  clear hr
  go_enter Try.func62, Try.ntmps62
  go_wp2_with fail
  have x0_0 : (w.alloc (.cells #[.slice a ws.length c, .int .i64 q] 27)).cell? ⟨w.heap.size, 0, none⟩ = some (.slice a ws.length c) := cell_new _ _ _ (by simp) rfl
  have x0_1 : (w.alloc (.cells #[.slice a ws.length c, .int .i64 q] 27)).cell? ⟨w.heap.size, 1, none⟩ = some (.int .i64 q) := cell_new _ _ _ (by simp) rfl
  have HB0 := Lib.hid (below_alloc w (.cells #[.slice a ws.length c, .int .i64 q] 27))
  replace x0_0 := cell_old (.cells #[.slice none 0 0, .int .i64 0] 27) x0_0
  replace x0_1 := cell_old (.cells #[.slice none 0 0, .int .i64 0] 27) x0_1
  have x1_0 : ((w.alloc (.cells #[.slice a ws.length c, .int .i64 q] 27)).alloc (.cells #[.slice none 0 0, .int .i64 0] 27)).cell? ⟨w.heap.size + 1, 0, none⟩ = some (.slice none 0 0) := cell_new _ _ _ (by simp) rfl
  have x1_1 : ((w.alloc (.cells #[.slice a ws.length c, .int .i64 q] 27)).alloc (.cells #[.slice none 0 0, .int .i64 0] 27)).cell? ⟨w.heap.size + 1, 1, none⟩ = some (.int .i64 0) := cell_new _ _ _ (by simp) rfl
  have f1_0 : ((w.alloc (.cells #[.slice a ws.length c, .int .i64 q] 27)).alloc (.cells #[.slice none 0 0, .int .i64 0] 27)).frozen? ⟨w.heap.size + 1, 0, none⟩ = false := fro_new _ _ _ (by simp)
  have f1_1 : ((w.alloc (.cells #[.slice a ws.length c, .int .i64 q] 27)).alloc (.cells #[.slice none 0 0, .int .i64 0] 27)).frozen? ⟨w.heap.size + 1, 1, none⟩ = false := fro_new _ _ _ (by simp)
  replace HB0 := Lib.hid (HB0.out.alloc (by simp) (.cells #[.slice none 0 0, .int .i64 0] 27))
  have s0 : w.heap.size + 2 ≤ ((w.alloc (.cells #[.slice a ws.length c, .int .i64 q] 27)).alloc (.cells #[.slice none 0 0, .int .i64 0] 27)).heap.size := by simp
  generalize hw : ((w.alloc (.cells #[.slice a ws.length c, .int .i64 q] 27)).alloc (.cells #[.slice none 0 0, .int .i64 0] 27)) = w0 at *
  clear hw
  have n0_0 : w.heap.size < w0.heap.size := by omega
  have n0_1 : w.heap.size + 1 < w0.heap.size := by omega
  refine (vote.impl_vote a ws c q _ (Hhr.out.below HB0.out) hn false h).mono ?_
  rintro e w1 ⟨rfl, hb⟩
  have s1 : w0.heap.size ≤ w1.heap.size := hb.size
  have n1_0 : w.heap.size < w1.heap.size := by omega
  have n1_1 : w.heap.size + 1 < w1.heap.size := by omega
  replace x0_0 := cell_below hb x0_0 (by omega)
  replace x0_1 := cell_below hb x0_1 (by omega)
  replace x1_0 := cell_below hb x1_0 (by omega)
  replace x1_1 := cell_below hb x1_1 (by omega)
  replace f1_0 := fro_below hb f1_0 (by omega)
  replace f1_1 := fro_below hb f1_1 (by omega)
  have HB1 := Lib.hid (HB0.out.trans (hb.mono (by omega)))
  clear hb
  go_wp2_with fail
  refine bodyPost_ret (v := .tuple #[.agg #[.slice none 0 0, .int .i64 0], .bool false]) (by simp [results, Try.results62, go_sem, x1_0, x1_1]) rfl ⟨rfl, ?_⟩
  exact ((HB1.out.setCell (by simp) _).setCell (by simp) _)
set_option maxRecDepth 100000 in
set_option maxHeartbeats 4000000 in
theorem impl_kept_yes (a : Option Addr) (ws : List Int) (c : Nat) (q : Int) (w : World) (hr : ints.Reads .i64 w a ws) (hn : ws.length ≤ 1048576) (h : Hid (voteB ws q = true)) :
    Calls Try.prog 62 #[.agg #[.slice a ws.length c, .int .i64 q]] w (fun e w' => e = .returned (.tuple #[.agg #[.slice a ws.length c, .int .i64 q], .bool true]) ∧ Below w.heap.size w w') := by
  have Hhr := Lib.hid hr
  clear hr
  go_enter Try.func62, Try.ntmps62
  go_wp2_with fail
  have x0_0 : (w.alloc (.cells #[.slice a ws.length c, .int .i64 q] 27)).cell? ⟨w.heap.size, 0, none⟩ = some (.slice a ws.length c) := cell_new _ _ _ (by simp) rfl
  have x0_1 : (w.alloc (.cells #[.slice a ws.length c, .int .i64 q] 27)).cell? ⟨w.heap.size, 1, none⟩ = some (.int .i64 q) := cell_new _ _ _ (by simp) rfl
  have HB0 := Lib.hid (below_alloc w (.cells #[.slice a ws.length c, .int .i64 q] 27))
  replace x0_0 := cell_old (.cells #[.slice none 0 0, .int .i64 0] 27) x0_0
  replace x0_1 := cell_old (.cells #[.slice none 0 0, .int .i64 0] 27) x0_1
  have x1_0 : ((w.alloc (.cells #[.slice a ws.length c, .int .i64 q] 27)).alloc (.cells #[.slice none 0 0, .int .i64 0] 27)).cell? ⟨w.heap.size + 1, 0, none⟩ = some (.slice none 0 0) := cell_new _ _ _ (by simp) rfl
  have x1_1 : ((w.alloc (.cells #[.slice a ws.length c, .int .i64 q] 27)).alloc (.cells #[.slice none 0 0, .int .i64 0] 27)).cell? ⟨w.heap.size + 1, 1, none⟩ = some (.int .i64 0) := cell_new _ _ _ (by simp) rfl
  have f1_0 : ((w.alloc (.cells #[.slice a ws.length c, .int .i64 q] 27)).alloc (.cells #[.slice none 0 0, .int .i64 0] 27)).frozen? ⟨w.heap.size + 1, 0, none⟩ = false := fro_new _ _ _ (by simp)
  have f1_1 : ((w.alloc (.cells #[.slice a ws.length c, .int .i64 q] 27)).alloc (.cells #[.slice none 0 0, .int .i64 0] 27)).frozen? ⟨w.heap.size + 1, 1, none⟩ = false := fro_new _ _ _ (by simp)
  replace HB0 := Lib.hid (HB0.out.alloc (by simp) (.cells #[.slice none 0 0, .int .i64 0] 27))
  have s0 : w.heap.size + 2 ≤ ((w.alloc (.cells #[.slice a ws.length c, .int .i64 q] 27)).alloc (.cells #[.slice none 0 0, .int .i64 0] 27)).heap.size := by simp
  generalize hw : ((w.alloc (.cells #[.slice a ws.length c, .int .i64 q] 27)).alloc (.cells #[.slice none 0 0, .int .i64 0] 27)) = w0 at *
  clear hw
  have n0_0 : w.heap.size < w0.heap.size := by omega
  have n0_1 : w.heap.size + 1 < w0.heap.size := by omega
  refine (vote.impl_vote a ws c q _ (Hhr.out.below HB0.out) hn true h).mono ?_
  rintro e w1 ⟨rfl, hb⟩
  have s1 : w0.heap.size ≤ w1.heap.size := hb.size
  have n1_0 : w.heap.size < w1.heap.size := by omega
  have n1_1 : w.heap.size + 1 < w1.heap.size := by omega
  replace x0_0 := cell_below hb x0_0 (by omega)
  replace x0_1 := cell_below hb x0_1 (by omega)
  replace x1_0 := cell_below hb x1_0 (by omega)
  replace x1_1 := cell_below hb x1_1 (by omega)
  replace f1_0 := fro_below hb f1_0 (by omega)
  replace f1_1 := fro_below hb f1_1 (by omega)
  have HB1 := Lib.hid (HB0.out.trans (hb.mono (by omega)))
  clear hb
  go_wp2_with fail
  refine bodyPost_ret (v := .tuple #[.agg #[.slice a ws.length c, .int .i64 q], .bool true]) (by simp [results, Try.results62, go_sem, x1_0, x1_1, f1_0, f1_1]) rfl ⟨rfl, ?_⟩
  exact ((HB1.out.setCell (by simp) _).setCell (by simp) _)
end Go.Proofs.Ytcklehfcpengoaa.voter
