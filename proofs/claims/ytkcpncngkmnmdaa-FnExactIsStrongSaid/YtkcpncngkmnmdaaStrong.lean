/- The walks of IsStrong: the model's and the program's. -/
import Derived.Test.YtkcpncngkmnmdaaProper
import Derived.Test.YtkcpncngkmnmdaaDualV
namespace Go.Proofs.Ytkcpncngkmnmdaa.strong
open Go.RowKit own pp nums pv bitw mk wins ownb bitn outc proper
set_option linter.unusedVariables false
set_option linter.unusedSimpArgs false

/-- A set or that of all other voters wins. -/
def strB (win : Nat → Bool) (N : Nat) : Bool := (List.range N).all fun k => !(!(win k) && !(win (N - 1 - k)))
theorem str_no {win : Nat → Bool} {N : Nat} (k : Nat) (hk : k < N) (h : (!(win k) && !(win (N - 1 - k))) = true) : strB win N = false := by
  unfold strB
  rw [List.all_eq_false]
  exact ⟨k, List.mem_range.2 hk, by rw [h]; simp⟩
theorem str_yes {win : Nat → Bool} {N : Nat} (h : ∀ k, k < N → (!(win k) && !(win (N - 1 - k))) = false) : strB win N = true := by
  unfold strB
  rw [List.all_eq_true]
  intro k hk
  rw [h k (List.mem_range.1 hk)]; rfl
theorem dg_other : ∀ n : Fin 9, ∀ k : Fin 256, k.val < 2 ^ n.val → ∀ j : Fin 8, j.val < n.val → (2 ^ n.val - 1 - k.val) / 2 ^ j.val % 2 + k.val / 2 ^ j.val % 2 = 1 := by decide +kernel
theorem dot_other {ws : List Int} (h8 : ws.length ≤ 8) {k : Nat} (hk : k < 2 ^ ws.length) : pp.dot ws (bitsTo (2 ^ ws.length - 1 - k) ws.length) + pp.dot ws (bitsTo k ws.length) = sumZ ws := by
  have hp := bits8.pow8 h8
  have key : ∀ i, i ≤ ws.length → pp.dotTo ws (bitsTo (2 ^ ws.length - 1 - k) ws.length) i + pp.dotTo ws (bitsTo k ws.length) i = sumTo ws i := by
    intro i
    induction i with
    | zero => intro _; rfl
    | succ i ih =>
      intro hi
      have hd := dg_other ⟨ws.length, by omega⟩ ⟨k, by omega⟩ hk ⟨i, by omega⟩ hi
      simp only at hd
      have ih2 := ih (by omega)
      rw [pp.dotTo_succ, pp.dotTo_succ, sumTo_succ, bits_getD _ _ _ (by omega), bits_getD _ _ _ (by omega)]
      generalize (2 ^ ws.length - 1 - k) / 2 ^ i % 2 = x at *
      generalize k / 2 ^ i % 2 = y at *
      have hxy : (x = 0 ∧ y = 1) ∨ (x = 1 ∧ y = 0) := by omega
      rcases hxy with ⟨rfl, rfl⟩ | ⟨rfl, rfl⟩ <;> simp <;> omega
  exact key ws.length (Nat.le_refl _)
theorem dual_win {ws : List Int} {q : Int} (h8 : ws.length ≤ 8) {k : Nat} (hk : k < 2 ^ ws.length) : winB ws (sumZ ws + 1 - q) k = !(winB ws q (2 ^ ws.length - 1 - k)) := by
  have h := dot_other h8 hk
  unfold winB
  rw [Bool.eq_iff_iff]
  simp only [decide_eq_true_eq, Bool.not_eq_true', decide_eq_false_iff_not]
  omega
theorem dual_vote {ws : List Int} {q : Int} (h : voteB ws q = true) : voteB ws (sumZ ws + 1 - q) = true := by
  have := (vote_iff _ _).1 h
  rw [vote_iff]
  exact ⟨this.1, this.2.1, by omega, by omega⟩
theorem dual_proper {ws : List Int} {q : Int} (h8 : ws.length ≤ 8) : propB (winB ws (sumZ ws + 1 - q)) (2 ^ ws.length) = strB (winB ws q) (2 ^ ws.length) := by
  have hb : ∀ k, k < 2 ^ ws.length → bothB (winB ws (sumZ ws + 1 - q)) (2 ^ ws.length) k = (!(winB ws q k) && !(winB ws q (2 ^ ws.length - 1 - k))) := fun k hk => by
    unfold bothB
    rw [dual_win h8 hk, dual_win h8 (by omega), show 2 ^ ws.length - 1 - (2 ^ ws.length - 1 - k) = k by omega, Bool.and_comm]
  unfold propB strB
  rw [Bool.eq_iff_iff, List.all_eq_true, List.all_eq_true]
  constructor
  · intro h k hk
    have := h k hk
    rw [hb k (List.mem_range.1 hk)] at this
    exact this
  · intro h k hk
    rw [hb k (List.mem_range.1 hk)]
    exact h k hk
set_option maxRecDepth 100000 in
set_option maxHeartbeats 4000000 in
theorem spec_no (a : Option Addr) (ws : List Int) (c : Nat) (q : Int) (w : World) (hr : ints.Reads .i64 w a ws) (hn : ws.length ≤ 1048576) (hk : voteB ws q = false) :
    Calls Try.prog 43 #[.agg #[.slice a ws.length c, .int .i64 q]] w (RetBB false false w) := by
  have HV := Lib.hid (fun (wa : World) (hb : Below w.heap.size w wa) => vote.spec_vote a ws c q wa (hr.below hb) hn false (Lib.hid hk))
  clear hr hk
  go_enter Try.func43, Try.ntmps43
  obtain ⟨w0, hw0⟩ : ∃ w0 : World, w0 = w.alloc (.cells #[.slice a ws.length c, .int .i64 q] 29) := ⟨_, rfl⟩
  have x0 : w0.cell? ⟨w.heap.size, 0, none⟩ = some (.slice a ws.length c) := by rw [hw0]; exact cell_new _ _ _ rfl rfl
  have x1 : w0.cell? ⟨w.heap.size, 1, none⟩ = some (.int .i64 q) := by rw [hw0]; exact cell_new _ _ _ rfl rfl
  have HB0 := Lib.hid (show Below w.heap.size w w0 by rw [hw0]; exact below_alloc w (.cells #[.slice a ws.length c, .int .i64 q] 29))
  have s0 : w.heap.size + 1 ≤ w0.heap.size := by rw [hw0]; simp
  go_wp2_with fail
  rw [← hw0]
  clear hw0
  refine (HV.out _ HB0.out).mono ?_
  rintro e w1 ⟨rfl, hb1⟩
  have y0 := cell_below hb1 x0 (by omega)
  have y1 := cell_below hb1 x1 (by omega)
  have HB1 := Lib.hid (HB0.out.trans (hb1.mono (by omega)))
  have s1 := hb1.size
  clear hb1 x0 x1 HV
  go_wp2_with fail
  go_ret2
  exact ⟨rfl, HB1.out⟩
set_option maxRecDepth 100000 in
set_option maxHeartbeats 4000000 in
theorem spec_yes (a : Option Addr) (ws : List Int) (c : Nat) (q : Int) (w : World) (hr : ints.Reads .i64 w a ws) (hn : ws.length ≤ 1048576) (hk : voteB ws q = true) :
    Calls Try.prog 43 #[.agg #[.slice a ws.length c, .int .i64 q]] w (RetBB (strB (winB ws q) (2 ^ ws.length)) true w) := by
  have HV := Lib.hid (fun (wa : World) (hb : Below w.heap.size w wa) => vote.spec_vote a ws c q wa (hr.below hb) hn true (Lib.hid hk))
  have h18 := ((vote_iff _ _).1 hk).1
  have hzz := ((vote_iff _ _).1 hk).2.1
  have hp12 := bits8.pow8 h18.2
  have HW := Lib.hid (fun (wa : World) (hb : Below w.heap.size w wa) => wins.spec_wins a ws c q wa (hr.below hb) hn h18.2 hzz)
  clear hr hk
  go_enter Try.func43, Try.ntmps43
  obtain ⟨w0, hw0⟩ : ∃ w0 : World, w0 = w.alloc (.cells #[.slice a ws.length c, .int .i64 q] 29) := ⟨_, rfl⟩
  have x0 : w0.cell? ⟨w.heap.size, 0, none⟩ = some (.slice a ws.length c) := by rw [hw0]; exact cell_new _ _ _ rfl rfl
  have x1 : w0.cell? ⟨w.heap.size, 1, none⟩ = some (.int .i64 q) := by rw [hw0]; exact cell_new _ _ _ rfl rfl
  have HB0 := Lib.hid (show Below w.heap.size w w0 by rw [hw0]; exact below_alloc w (.cells #[.slice a ws.length c, .int .i64 q] 29))
  have s0 : w.heap.size + 1 ≤ w0.heap.size := by rw [hw0]; simp
  go_wp2_with fail
  rw [← hw0]
  clear hw0
  refine (HV.out _ HB0.out).mono ?_
  rintro e w1 ⟨rfl, hb1⟩
  have y0 := cell_below hb1 x0 (by omega)
  have y1 := cell_below hb1 x1 (by omega)
  have HB1 := Lib.hid (HB0.out.trans (hb1.mono (by omega)))
  have s1 := hb1.size
  clear hb1 x0 x1 HV
  go_wp2_with fail
  refine (HW.out _ HB1.out).mono ?_
  rintro e w2 ⟨v, rfl, how, hb2⟩
  obtain ⟨gb, cb, rfl, g1, g2, g3, g4, hcs⟩ := how.slice hp12.1
  have HB12 := Lib.hid hb2
  have HB2 := Lib.hid (HB1.out.trans (hb2.mono (by omega)))
  have s2 := hb2.size
  have HOW := Lib.hid how
  clear hb2 how HW
  clear HB12 HOW y0 y1
  generalize winB ws q = win at *
  generalize 2 ^ ws.length = N at *
  go_wp2_with fail
  go_loop [5] (fun i => ∃ k : Nat, k ≤ N ∧ i = .int .i64 k ∧ Hid (∀ j, j < k → (!(win j) && !(win (N - 1 - j))) = false)) (fun i => N - (intOf i).toNat)
  case atStart => exact ⟨0, Nat.zero_le _, rfl, Lib.hid (fun j hj => by omega)⟩
  case round =>
    obtain ⟨k, hk, rfl, hj⟩ := hrel
    by_cases hlt : k < N
    · have c1 := hcs k hlt
      have c2 := hcs (N - 1 - k) (by omega)
      have HJ := Lib.hid (fun (h : (!(win k) && !(win (N - 1 - k))) = false) (j : Nat) (h2 : j < k + 1) => show (!(win j) && !(win (N - 1 - j))) = false from by
        by_cases e : j = k
        · rw [e]; exact h
        · exact hj.out j (by omega))
      have HNO := Lib.hid (fun (h : (!(win k) && !(win (N - 1 - k))) = true) => str_no k hlt h)
      have et : ((N : Int) - 1 - (k : Int)).toNat = N - 1 - k := by omega
      have i1 : (0 : Int) ≤ (k : Int) := by omega
      have i2 : (k : Int) < (N : Int) := by omega
      have i3 : (0 : Int) ≤ (N : Int) - 1 - (k : Int) := by omega
      have i4 : (N : Int) - 1 - (k : Int) < (N : Int) := by omega
      clear hcs hj
      cases h1 : win k
      · rw [h1] at c1
        cases h2 : win (N - 1 - k)
        · rw [h2] at c2
          have HK := Lib.hid (HNO.out (by rw [h1, h2]; rfl))
          clear h1 h2
          go_wp2_with fail
          go_ret2
          exact ⟨by rw [HK.out]; rfl, HB2.out⟩
        · rw [h2] at c2
          have HK := Lib.hid (HJ.out (by rw [h1, h2]; rfl))
          clear h1 h2
          go_wp2_with fail
          go_round
          case rel => exact ⟨k + 1, by omega, by go_num, HK⟩
          case measure => simp [intOf]; omega
      · rw [h1] at c1
        have HK := Lib.hid (HJ.out (by rw [h1]; rfl))
        clear h1
        go_wp2_with fail
        go_round
        case rel => exact ⟨k + 1, by omega, by go_num, HK⟩
        case measure => simp [intOf]; omega
    · obtain rfl : k = N := by omega
      have HK := Lib.hid (str_yes hj.out)
      clear hcs hj
      go_wp2_with fail
      go_ret2
      exact ⟨by rw [HK.out]; rfl, HB2.out⟩
set_option maxRecDepth 100000 in
set_option maxHeartbeats 4000000 in
theorem impl_no (a : Option Addr) (ws : List Int) (c : Nat) (q : Int) (w : World) (hr : ints.Reads .i64 w a ws) (hn : ws.length ≤ 1048576) (hk : voteB ws q = false) :
    Calls Try.prog 44 #[.agg #[.slice a ws.length c, .int .i64 q]] w (RetBB false false w) := by
  have HD := Lib.hid (fun (wa : World) (hb : Below w.heap.size w wa) => dualv.impl_no a ws c q wa (hr.below hb) hn hk)
  have HP := Lib.hid (fun (p1 : Option Addr) (q1 : Nat) (wa : World) (h : ints.Reads .i64 wa p1 ([] : List Int)) => proper.impl_any p1 ([] : List Int) q1 (0) wa h (by first | omega | simp) (n := 0) (win := no) (ok := false) (.inr ⟨by decide, rfl, rfl, rfl⟩))
  clear hr hk
  go_enter Try.func44, Try.ntmps44
  obtain ⟨w0, hw0⟩ : ∃ w0 : World, w0 = w.alloc (.cells #[.slice a ws.length c, .int .i64 q] 29) := ⟨_, rfl⟩
  have x0 : w0.cell? ⟨w.heap.size, 0, none⟩ = some (.slice a ws.length c) := by rw [hw0]; exact cell_new _ _ _ rfl rfl
  have x1 : w0.cell? ⟨w.heap.size, 1, none⟩ = some (.int .i64 q) := by rw [hw0]; exact cell_new _ _ _ rfl rfl
  have HB0 := Lib.hid (show Below w.heap.size w w0 by rw [hw0]; exact below_alloc w (.cells #[.slice a ws.length c, .int .i64 q] 29))
  have s0 : w.heap.size + 1 ≤ w0.heap.size := by rw [hw0]; simp
  go_wp2_with fail
  rw [← hw0]
  clear hw0
  refine (HD.out _ HB0.out).mono ?_
  rintro e w1 ⟨v, rfl, ho, hb1⟩
  obtain ⟨p1, q1, rfl, _, _, _⟩ := ho.slice
  have HB1 := Lib.hid (HB0.out.trans (hb1.mono (by omega)))
  have s1 := hb1.size
  obtain ⟨w2, hw2⟩ : ∃ w2 : World, w2 = w1.alloc (.cells #[.slice p1 ([] : List Int).length q1, .int .i64 (0)] 29) := ⟨_, rfl⟩
  have hb2 : Below w1.heap.size w1 w2 := by rw [hw2]; exact below_alloc _ _
  have HB2 := Lib.hid (HB1.out.trans (hb2.mono (by omega)))
  have HRD := Lib.hid (ho.reads.below hb2)
  clear hb1 hb2 ho x0 x1 HD
  go_wp2_with fail
  try simp only [List.length_nil] at hw2
  rw [← hw2]
  clear hw2
  refine (HP.out _ _ _ HRD.out).mono ?_
  rintro e w3 ⟨rfl, hb3⟩
  have HB3 := Lib.hid (HB2.out.trans (hb3.mono (by have := HB2.out.size; omega)))
  clear hb3 HP
  go_wp2_with fail
  go_ret2
  exact ⟨rfl, HB3.out⟩
set_option maxRecDepth 100000 in
set_option maxHeartbeats 4000000 in
theorem impl_yes (a : Option Addr) (ws : List Int) (c : Nat) (q : Int) (w : World) (hr : ints.Reads .i64 w a ws) (hn : ws.length ≤ 1048576) (hk : voteB ws q = true) :
    Calls Try.prog 44 #[.agg #[.slice a ws.length c, .int .i64 q]] w (RetBB (strB (winB ws q) (2 ^ ws.length)) true w) := by
  rw [← dual_proper ((vote_iff _ _).1 hk).1.2]
  have hdv := dual_vote hk
  have HD := Lib.hid (fun (wa : World) (hb : Below w.heap.size w wa) => dualv.impl_yes a ws c q wa (hr.below hb) hn hk)
  have HP := Lib.hid (fun (p1 : Option Addr) (q1 : Nat) (wa : World) (h : ints.Reads .i64 wa p1 ws) => proper.impl_any p1 ws q1 (sumZ ws + 1 - q) wa h (by first | omega | simp) (n := ws.length) (win := winB ws (sumZ ws + 1 - q)) (ok := true) (.inl ⟨hdv, rfl, rfl, rfl⟩))
  clear hr hk hdv
  go_enter Try.func44, Try.ntmps44
  obtain ⟨w0, hw0⟩ : ∃ w0 : World, w0 = w.alloc (.cells #[.slice a ws.length c, .int .i64 q] 29) := ⟨_, rfl⟩
  have x0 : w0.cell? ⟨w.heap.size, 0, none⟩ = some (.slice a ws.length c) := by rw [hw0]; exact cell_new _ _ _ rfl rfl
  have x1 : w0.cell? ⟨w.heap.size, 1, none⟩ = some (.int .i64 q) := by rw [hw0]; exact cell_new _ _ _ rfl rfl
  have HB0 := Lib.hid (show Below w.heap.size w w0 by rw [hw0]; exact below_alloc w (.cells #[.slice a ws.length c, .int .i64 q] 29))
  have s0 : w.heap.size + 1 ≤ w0.heap.size := by rw [hw0]; simp
  go_wp2_with fail
  rw [← hw0]
  clear hw0
  refine (HD.out _ HB0.out).mono ?_
  rintro e w1 ⟨v, rfl, ho, hb1⟩
  obtain ⟨p1, q1, rfl, _, _, _⟩ := ho.slice
  have HB1 := Lib.hid (HB0.out.trans (hb1.mono (by omega)))
  have s1 := hb1.size
  obtain ⟨w2, hw2⟩ : ∃ w2 : World, w2 = w1.alloc (.cells #[.slice p1 ws.length q1, .int .i64 (sumZ ws + 1 - q)] 29) := ⟨_, rfl⟩
  have hb2 : Below w1.heap.size w1 w2 := by rw [hw2]; exact below_alloc _ _
  have HB2 := Lib.hid (HB1.out.trans (hb2.mono (by omega)))
  have HRD := Lib.hid (ho.reads.below hb2)
  clear hb1 hb2 ho x0 x1 HD
  go_wp2_with fail
  skip
  rw [← hw2]
  clear hw2
  refine (HP.out _ _ _ HRD.out).mono ?_
  rintro e w3 ⟨rfl, hb3⟩
  have HB3 := Lib.hid (HB2.out.trans (hb3.mono (by have := HB2.out.size; omega)))
  clear hb3 HP
  go_wp2_with fail
  go_ret2
  exact ⟨rfl, HB3.out⟩
end Go.Proofs.Ytkcpncngkmnmdaa.strong
