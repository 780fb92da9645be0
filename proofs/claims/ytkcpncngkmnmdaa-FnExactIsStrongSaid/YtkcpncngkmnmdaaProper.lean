/- The walks of IsProper: the model's and the program's. -/
import Derived.Test.YtkcpncngkmnmdaaOutOf
namespace Go.Proofs.Ytkcpncngkmnmdaa.proper
open Go.RowKit own pp nums pv bitw mk wins ownb bitn outc
set_option linter.unusedVariables false
set_option linter.unusedSimpArgs false

/-- A set and that of all other voters win. -/
def bothB (win : Nat → Bool) (N k : Nat) : Bool := win k && win (N - 1 - k)
/-- No two such sets do. -/
def propB (win : Nat → Bool) (N : Nat) : Bool := (List.range N).all fun k => !(bothB win N k)
theorem prop_no {win : Nat → Bool} {N : Nat} (k : Nat) (hk : k < N) (h : bothB win N k = true) : propB win N = false := by
  unfold propB
  rw [List.all_eq_false]
  exact ⟨k, List.mem_range.2 hk, by rw [h]; simp⟩
theorem prop_yes {win : Nat → Bool} {N : Nat} (h : ∀ k, k < N → bothB win N k = false) : propB win N = true := by
  unfold propB
  rw [List.all_eq_true]
  intro k hk
  rw [h k (List.mem_range.1 hk)]; rfl
theorem prop_count (win : Nat → Bool) (N : Nat) : decide ((((pwh.placesTo (bothB win N) N).length : Nat) : Int) = 0) = propB win N := by
  have e : (pwh.placesTo (bothB win N) N).length = ((List.range N).filter (bothB win N)).length := by unfold pwh.placesTo; rw [List.length_map]
  rw [e]
  cases hp : propB win N
  · rw [decide_eq_false_iff_not]
    intro h
    have h0 : (List.range N).filter (bothB win N) = [] := List.length_eq_zero_iff.1 (by omega)
    rw [List.filter_eq_nil_iff] at h0
    rw [prop_yes (fun k hk => by have := h0 k (List.mem_range.2 hk); simpa using this)] at hp
    cases hp
  · rw [decide_eq_true_iff]
    have h0 : (List.range N).filter (bothB win N) = [] := by
      rw [List.filter_eq_nil_iff]
      intro k hk hb
      rw [prop_no k (List.mem_range.1 hk) hb] at hp
      cases hp
    rw [h0]; rfl
set_option maxRecDepth 100000 in
set_option maxHeartbeats 4000000 in
theorem spec_proper (a : Option Addr) (ws : List Int) (c : Nat) (q : Int) (w : World) (hr : ints.Reads .i64 w a ws) (hn : ws.length ≤ 1048576) (hk : voteB ws q = true) :
    Calls Try.prog 71 #[.agg #[.slice a ws.length c, .int .i64 q]] w (RetB (propB (winB ws q) (2 ^ ws.length)) w) := by
  have h18 := ((vote_iff _ _).1 hk).1
  have hzz := ((vote_iff _ _).1 hk).2.1
  have hp12 := bits8.pow8 h18.2
  have HW := Lib.hid (fun (wa : World) (hb : Below w.heap.size w wa) => wins.spec_wins a ws c q wa (hr.below hb) hn h18.2 hzz)
  clear hr hk
  go_enter Try.func71, Try.ntmps71
  obtain ⟨w0, hw0⟩ : ∃ w0 : World, w0 = w.alloc (.cells #[.slice a ws.length c, .int .i64 q] 29) := ⟨_, rfl⟩
  have x0 : w0.cell? ⟨w.heap.size, 0, none⟩ = some (.slice a ws.length c) := by rw [hw0]; exact cell_new _ _ _ rfl rfl
  have x1 : w0.cell? ⟨w.heap.size, 1, none⟩ = some (.int .i64 q) := by rw [hw0]; exact cell_new _ _ _ rfl rfl
  have HB0 := Lib.hid (show Below w.heap.size w w0 by rw [hw0]; exact below_alloc w (.cells #[.slice a ws.length c, .int .i64 q] 29))
  have s0 : w.heap.size + 1 ≤ w0.heap.size := by rw [hw0]; simp
  go_wp2_with fail
  rw [← hw0]
  clear hw0
  refine (HW.out _ HB0.out).mono ?_
  rintro e w2 ⟨v, rfl, how, hb2⟩
  obtain ⟨gb, cb, rfl, g1, g2, g3, g4, hcs⟩ := how.slice hp12.1
  have HB12 := Lib.hid hb2
  have HB2 := Lib.hid (HB0.out.trans (hb2.mono (by omega)))
  have s2 := hb2.size
  have HOW := Lib.hid how
  clear hb2 how HW
  clear HB12 HOW x0 x1
  generalize winB ws q = win at *
  generalize 2 ^ ws.length = N at *
  go_wp2_with fail
  go_loop [4] (fun i => ∃ k : Nat, k ≤ N ∧ i = .int .i64 k ∧ Hid (∀ j, j < k → bothB win N j = false)) (fun i => N - (intOf i).toNat)
  case atStart => exact ⟨0, Nat.zero_le _, rfl, Lib.hid (fun j hj => by omega)⟩
  case round =>
    obtain ⟨k, hk, rfl, hj⟩ := hrel
    by_cases hlt : k < N
    · have c1 := hcs k hlt
      have c2 := hcs (N - 1 - k) (by omega)
      have HBB := Lib.hid (show bothB win N k = (win k && win (N - 1 - k)) from rfl)
      have HJ := Lib.hid (fun (h : bothB win N k = false) (j : Nat) (h2 : j < k + 1) => show bothB win N j = false from by
        by_cases e : j = k
        · rw [e]; exact h
        · exact hj.out j (by omega))
      have HNO := Lib.hid (fun (h : bothB win N k = true) => prop_no k hlt h)
      have ek : ((N - 1 - k : Nat) : Int) = (N : Int) - 1 - (k : Int) := by omega
      have et : ((N : Int) - 1 - (k : Int)).toNat = N - 1 - k := by omega
      have i1 : (0 : Int) ≤ (k : Int) := by omega
      have i2 : (k : Int) < (N : Int) := by omega
      have i3 : (0 : Int) ≤ (N : Int) - 1 - (k : Int) := by omega
      have i4 : (N : Int) - 1 - (k : Int) < (N : Int) := by omega
      clear hcs ek hj
      cases h1 : win k
      · rw [h1] at c1
        have HK := Lib.hid (HJ.out (by rw [HBB.out, h1]; rfl))
        clear h1
        go_wp2_with fail
        go_round
        case rel => exact ⟨k + 1, by omega, by go_num, HK⟩
        case measure => simp [intOf]; omega
      · rw [h1] at c1
        cases h2 : win (N - 1 - k)
        · rw [h2] at c2
          have HK := Lib.hid (HJ.out (by rw [HBB.out, h1, h2]; rfl))
          clear h1 h2
          go_wp2_with fail
          go_round
          case rel => exact ⟨k + 1, by omega, by go_num, HK⟩
          case measure => simp [intOf]; omega
        · rw [h2] at c2
          have HK := Lib.hid (HNO.out (by rw [HBB.out, h1, h2]; rfl))
          clear h1 h2
          go_wp2_with fail
          go_ret
          exact ⟨by rw [HK.out]; rfl, HB2.out⟩
    · obtain rfl : k = N := by omega
      have HK := Lib.hid (prop_yes hj.out)
      clear hcs hj
      go_wp2_with fail
      go_ret
      exact ⟨by rw [HK.out]; rfl, HB2.out⟩
set_option maxRecDepth 100000 in
set_option maxHeartbeats 4000000 in
theorem spec_no (a : Option Addr) (ws : List Int) (c : Nat) (q : Int) (w : World) (hr : ints.Reads .i64 w a ws) (hn : ws.length ≤ 1048576) (hk : voteB ws q = false) :
    Calls Try.prog 41 #[.agg #[.slice a ws.length c, .int .i64 q]] w (RetBB false false w) := by
  have HV := Lib.hid (fun (wa : World) (hb : Below w.heap.size w wa) => vote.spec_vote a ws c q wa (hr.below hb) hn false (Lib.hid hk))
  clear hr hk
  go_enter Try.func41, Try.ntmps41
  obtain ⟨w0, hw0⟩ : ∃ w0 : World, w0 = w.alloc (.cells #[.slice a ws.length c, .int .i64 q] 29) := ⟨_, rfl⟩
  have x0 : w0.cell? ⟨w.heap.size, 0, none⟩ = some (.slice a ws.length c) := by rw [hw0]; exact cell_new _ _ _ rfl rfl
  have x1 : w0.cell? ⟨w.heap.size, 1, none⟩ = some (.int .i64 q) := by rw [hw0]; exact cell_new _ _ _ rfl rfl
  have HB0 := Lib.hid (show Below w.heap.size w w0 by rw [hw0]; exact below_alloc w (.cells #[.slice a ws.length c, .int .i64 q] 29))
  have s0 : w.heap.size + 1 ≤ w0.heap.size := by rw [hw0]; simp
  go_wp2_with fail
  rw [← hw0]
  clear hw0
  refine (HV.out _ HB0.out).mono ?_
  rintro e w1 ⟨rfl, hb1⟩
  have y0 := cell_below hb1 x0 (by omega)
  have y1 := cell_below hb1 x1 (by omega)
  have HB1 := Lib.hid (HB0.out.trans (hb1.mono (by omega)))
  have s1 := hb1.size
  clear hb1 x0 x1 HV
  go_wp2_with fail
  go_ret2
  exact ⟨rfl, HB1.out⟩
set_option maxRecDepth 100000 in
set_option maxHeartbeats 4000000 in
theorem spec_yes (a : Option Addr) (ws : List Int) (c : Nat) (q : Int) (w : World) (hr : ints.Reads .i64 w a ws) (hn : ws.length ≤ 1048576) (hk : voteB ws q = true) :
    Calls Try.prog 41 #[.agg #[.slice a ws.length c, .int .i64 q]] w (RetBB (propB (winB ws q) (2 ^ ws.length)) true w) := by
  have HV := Lib.hid (fun (wa : World) (hb : Below w.heap.size w wa) => vote.spec_vote a ws c q wa (hr.below hb) hn true (Lib.hid hk))
  have HW := Lib.hid (fun (wa : World) (hb : Below w.heap.size w wa) => spec_proper a ws c q wa (hr.below hb) hn hk)
  clear hr hk
  go_enter Try.func41, Try.ntmps41
  obtain ⟨w0, hw0⟩ : ∃ w0 : World, w0 = w.alloc (.cells #[.slice a ws.length c, .int .i64 q] 29) := ⟨_, rfl⟩
  have x0 : w0.cell? ⟨w.heap.size, 0, none⟩ = some (.slice a ws.length c) := by rw [hw0]; exact cell_new _ _ _ rfl rfl
  have x1 : w0.cell? ⟨w.heap.size, 1, none⟩ = some (.int .i64 q) := by rw [hw0]; exact cell_new _ _ _ rfl rfl
  have HB0 := Lib.hid (show Below w.heap.size w w0 by rw [hw0]; exact below_alloc w (.cells #[.slice a ws.length c, .int .i64 q] 29))
  have s0 : w.heap.size + 1 ≤ w0.heap.size := by rw [hw0]; simp
  go_wp2_with fail
  rw [← hw0]
  clear hw0
  refine (HV.out _ HB0.out).mono ?_
  rintro e w1 ⟨rfl, hb1⟩
  have y0 := cell_below hb1 x0 (by omega)
  have y1 := cell_below hb1 x1 (by omega)
  have HB1 := Lib.hid (HB0.out.trans (hb1.mono (by omega)))
  have s1 := hb1.size
  clear hb1 x0 x1 HV
  go_wp2_with fail
  refine (HW.out _ HB1.out).mono ?_
  rintro e w2 ⟨rfl, hb2⟩
  have HB2 := Lib.hid (HB1.out.trans (hb2.mono (by omega)))
  clear hb2
  go_wp2_with fail
  go_ret2
  exact ⟨rfl, HB2.out⟩
set_option maxRecDepth 100000 in
set_option maxHeartbeats 1000000 in
theorem pr_closure (k g n : Nat) (p : Nat → Bool) (w : World) (h8 : n ≤ 8) (hb : Box w g n p) (hg : g < w.heap.size) (hk : k < 2 ^ n) (ok : Bool) (hok : Hid ((p k && p (2 ^ n - 1 - k)) = ok)) :
    Calls Try.prog 72 #[.int .i64 k, .pointer (some ⟨g, 0, none⟩)] w (fun e w' => e = .returned (.bool ok) ∧ Below w.heap.size w w') := by
  have hp12 := bits8.pow8 h8
  have HAll := Lib.hid (all_any n p w h8)
  have c1 := hb.cellAt k (by omega)
  have HOK := hok
  clear hok
  have HE := Lib.hid (show ∀ w', Below w.heap.size w w' → w'.cell? ⟨g, 1 + (2 ^ n - 1 - k), none⟩ = some (.bool (p (2 ^ n - 1 - k))) from fun w' h => (hb.below h hg).cellAt _ (by omega))
  generalize 2 ^ n = N at *
  have et : ((N : Int) - 1 - (k : Int)).toNat = N - 1 - k := by omega
  have i1 : (0 : Int) ≤ (k : Int) := by omega
  have i2 : (k : Int) < 256 := by omega
  have i3 : (0 : Int) ≤ (N : Int) - 1 - (k : Int) := by omega
  have i4 : (N : Int) - 1 - (k : Int) < 256 := by omega
  cases h1 : p k
  · rw [h1] at c1 HOK
    obtain rfl : ok = false := by rw [← HOK.out]; rfl
    clear HOK h1 hb
    go_enter Try.func72, Try.ntmps72
    go_wp2_with fail
    go_ret
    exact ⟨rfl, Below.refl _ _⟩
  · rw [h1] at c1 HOK
    cases h2 : p (N - 1 - k)
    all_goals
      rw [h2] at HOK HE
      have e := HOK.out
      simp only [Bool.and_true, Bool.and_false] at e
      clear HOK h1 h2
      subst e
      go_enter Try.func72, Try.ntmps72
      go_wp2_with (refine wp_load_w rfl _ rfl g n p rfl hb ?_)
      refine HAll.out.mono ?_
      rintro e w1 ⟨rfl, hb1⟩
      have c2 := HE.out w1 hb1
      have HB1 := Lib.hid hb1
      clear hb1 hb
      go_wp2_with fail
      go_ret
      exact ⟨rfl, HB1.out⟩
set_option maxRecDepth 100000 in
set_option maxHeartbeats 4000000 in
theorem impl_any (a : Option Addr) (ws : List Int) (c : Nat) (q : Int) (w : World) (hr : ints.Reads .i64 w a ws) (hn : ws.length ≤ 1048576) {n : Nat} {win : Nat → Bool} {ok : Bool} (hd : OfV ws q n win ok) :
    Calls Try.prog 42 #[.agg #[.slice a ws.length c, .int .i64 q]] w (RetBB (ok && propB win (2 ^ n)) ok w) := by
  have HOF := Lib.hid (fun (wa : World) (hb : Below w.heap.size w wa) => of_data a ws c q wa (hr.below hb) hn hd)
  have h8 := hd.le
  clear hr hd
  go_enter Try.func42, Try.ntmps42
  obtain ⟨w0, hw0⟩ : ∃ w0 : World, w0 = w.alloc (.cells #[.slice a ws.length c, .int .i64 q] 29) := ⟨_, rfl⟩
  have x0 : w0.cell? ⟨w.heap.size, 0, none⟩ = some (.slice a ws.length c) := by rw [hw0]; exact cell_new _ _ _ rfl rfl
  have x1 : w0.cell? ⟨w.heap.size, 1, none⟩ = some (.int .i64 q) := by rw [hw0]; exact cell_new _ _ _ rfl rfl
  have HB0 := Lib.hid (show Below w.heap.size w w0 by rw [hw0]; exact below_alloc w (.cells #[.slice a ws.length c, .int .i64 q] 29))
  have s0 : w.heap.size + 1 ≤ w0.heap.size := by rw [hw0]; simp
  go_wp2_with fail
  rw [← hw0]
  clear hw0
  refine (HOF.out _ HB0.out).mono ?_
  rintro e w1 ⟨rfl, hb1⟩
  have HB1 := Lib.hid (HB0.out.trans (hb1.mono (by omega)))
  have s1 := hb1.size
  clear hb1 x0 x1 HOF
  go_wp2_with (refine wp_alloc rfl rfl ?_; intro w2 hbx2 hb2 hz2; refine Hid.out ?_)
  have HB2 := Lib.hid (HB1.out.trans (hb2.mono (by omega)))
  clear hb2
  refine Lib.hid ?_
  go_wp2_with (refine wp_store rfl _ _ rfl w1.heap.size n (upto win (2 ^ n)) rfl rfl 0 no hbx2 ?_; intro w3 hbx3 ho3 hz3; refine Hid.out ?_)
  have HB3 := Lib.hid (HB2.out.trans ((ho3.below (by omega)).mono (by omega)))
  have s3 : w1.heap.size < w3.heap.size := by omega
  clear ho3 hbx2
  refine Lib.hid ?_
  go_wp2_with (refine wp_load rfl _ rfl w1.heap.size n (upto win (2 ^ n)) rfl hbx3 ?_)
  have HCW := Lib.hid (count1 72 (enters_of Try.func72 (by kernel_rfl) rfl) (.pointer (some ⟨w1.heap.size, 0, none⟩)) n (upto win (2 ^ n)) (bothB win (2 ^ n)) w3 h8 (Lib.hid (fun k wr hk hb => by
    have hp := bits8.pow8 h8
    have hsz := hb.size
    exact pr_closure k w1.heap.size n (upto win (2 ^ n)) wr h8 (hbx3.below hb s3) (by omega) hk (bothB win (2 ^ n) k) (Lib.hid (by rw [upto_at _ _ _ hk, upto_at _ _ _ (by omega)]; rfl)))))
  have HPC := Lib.hid (prop_count win (2 ^ n))
  clear hbx3
  go_wp2_with fail
  refine HCW.out.mono ?_
  rintro e w4 ⟨rfl, hb4⟩
  have HB4 := Lib.hid (HB3.out.trans (hb4.mono (by omega)))
  clear hb4
  generalize propB win (2 ^ n) = pr at *
  generalize (pwh.placesTo (bothB win (2 ^ n)) (2 ^ n)).length = m at *
  cases ok
  · clear HPC
    go_wp2_with fail
    go_ret2
    exact ⟨rfl, HB4.out⟩
  · cases pr
    · have g1 : ((m : Int) == 0) = false := by have := HPC.out; rw [decide_eq_false_iff_not] at this; rw [beq_eq_false_iff_ne]; exact this
      clear HPC
      go_wp2_with fail
      go_ret2
      exact ⟨rfl, HB4.out⟩
    · have g1 : ((m : Int) == 0) = true := by have := HPC.out; rw [decide_eq_true_iff] at this; rw [beq_iff_eq]; exact this
      clear HPC
      go_wp2_with fail
      go_ret2
      exact ⟨rfl, HB4.out⟩
end Go.Proofs.Ytkcpncngkmnmdaa.proper
