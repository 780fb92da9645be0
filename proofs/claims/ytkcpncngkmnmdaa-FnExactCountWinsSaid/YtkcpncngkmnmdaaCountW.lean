/- The walks of CountWins: the model's and the program's. -/
import Derived.Test.YtkcpncngkmnmdaaOutOf
namespace Go.Proofs.Ytkcpncngkmnmdaa.countw
open Go.RowKit own pp nums pv bits8 bitw mk wins ownb outc
set_option linter.unusedVariables false
set_option linter.unusedSimpArgs false

set_option maxRecDepth 100000 in
set_option maxHeartbeats 4000000 in
theorem spec_no (a : Option Addr) (ws : List Int) (c : Nat) (q : Int) (w : World) (hr : ints.Reads .i64 w a ws) (hn : ws.length ≤ 1048576) (hk : voteB ws q = false) :
    Calls Try.prog 26 #[.agg #[.slice a ws.length c, .int .i64 q]] w (RetNB 0 false w) := by
  have HV := Lib.hid (fun (wa : World) (hb : Below w.heap.size w wa) => vote.spec_vote a ws c q wa (hr.below hb) hn false (Lib.hid hk))
  clear hr hk
  go_enter Try.func26, Try.ntmps26
  obtain ⟨w0, hw0⟩ : ∃ w0 : World, w0 = w.alloc (.cells #[.slice a ws.length c, .int .i64 q] 29) := ⟨_, rfl⟩
  have x0 : w0.cell? ⟨w.heap.size, 0, none⟩ = some (.slice a ws.length c) := by rw [hw0]; exact cell_new _ _ _ rfl rfl
  have x1 : w0.cell? ⟨w.heap.size, 1, none⟩ = some (.int .i64 q) := by rw [hw0]; exact cell_new _ _ _ rfl rfl
  have HB0 := Lib.hid (show Below w.heap.size w w0 by rw [hw0]; exact below_alloc w (.cells #[.slice a ws.length c, .int .i64 q] 29))
  have s0 : w.heap.size + 1 ≤ w0.heap.size := by rw [hw0]; simp
  go_wp2_with fail
  rw [← hw0]
  clear hw0
  refine (HV.out _ HB0.out).mono ?_
  rintro e w1 ⟨rfl, hb1⟩
  have y0 := cell_below hb1 x0 (by omega)
  have y1 := cell_below hb1 x1 (by omega)
  have HB1 := Lib.hid (HB0.out.trans (hb1.mono (by omega)))
  have s1 := hb1.size
  clear hb1 x0 x1 HV
  go_wp2_with fail
  go_ret2
  exact ⟨rfl, HB1.out⟩
set_option maxRecDepth 100000 in
set_option maxHeartbeats 4000000 in
theorem spec_yes (a : Option Addr) (ws : List Int) (c : Nat) (q : Int) (w : World) (hr : ints.Reads .i64 w a ws) (hn : ws.length ≤ 1048576) (hk : voteB ws q = true) :
    Calls Try.prog 26 #[.agg #[.slice a ws.length c, .int .i64 q]] w (RetNB (((pwh.placesTo (winB ws q) (2 ^ ws.length)).length : Nat) : Int) true w) := by
  have HV := Lib.hid (fun (wa : World) (hb : Below w.heap.size w wa) => vote.spec_vote a ws c q wa (hr.below hb) hn true (Lib.hid hk))
  have h18 := ((vote_iff _ _).1 hk).1
  have hzz := ((vote_iff _ _).1 hk).2.1
  have hp12 := bits8.pow8 h18.2
  have HW := Lib.hid (fun (wa : World) (hb : Below w.heap.size w wa) => wins.spec_wins a ws c q wa (hr.below hb) hn h18.2 hzz)
  clear hr hk
  go_enter Try.func26, Try.ntmps26
  obtain ⟨w0, hw0⟩ : ∃ w0 : World, w0 = w.alloc (.cells #[.slice a ws.length c, .int .i64 q] 29) := ⟨_, rfl⟩
  have x0 : w0.cell? ⟨w.heap.size, 0, none⟩ = some (.slice a ws.length c) := by rw [hw0]; exact cell_new _ _ _ rfl rfl
  have x1 : w0.cell? ⟨w.heap.size, 1, none⟩ = some (.int .i64 q) := by rw [hw0]; exact cell_new _ _ _ rfl rfl
  have HB0 := Lib.hid (show Below w.heap.size w w0 by rw [hw0]; exact below_alloc w (.cells #[.slice a ws.length c, .int .i64 q] 29))
  have s0 : w.heap.size + 1 ≤ w0.heap.size := by rw [hw0]; simp
  go_wp2_with fail
  rw [← hw0]
  clear hw0
  refine (HV.out _ HB0.out).mono ?_
  rintro e w1 ⟨rfl, hb1⟩
  have y0 := cell_below hb1 x0 (by omega)
  have y1 := cell_below hb1 x1 (by omega)
  have HB1 := Lib.hid (HB0.out.trans (hb1.mono (by omega)))
  have s1 := hb1.size
  clear hb1 x0 x1 HV
  go_wp2_with fail
  refine (HW.out _ HB1.out).mono ?_
  rintro e w2 ⟨v, rfl, how, hb2⟩
  obtain ⟨gb, cb, rfl, g1, g2, g3, g4, hcs⟩ := how.slice hp12.1
  have z0 := cell_below hb2 y0 (by omega)
  have z1 := cell_below hb2 y1 (by omega)
  have HB2 := Lib.hid (HB1.out.trans (hb2.mono (by omega)))
  have s2 := hb2.size
  have HOW := Lib.hid how
  clear hb2 how HW
  generalize winB ws q = win at *
  generalize 2 ^ ws.length = N at *
  go_wp2_with fail
  go_loop [4, 6] (fun s i => ∃ k : Nat, k ≤ N ∧ i = .int .i64 k ∧ s = .int .i64 (((pwh.placesTo win k).length : Nat) : Int)) (fun _ i => N - (intOf i).toNat)
  case atStart => exact ⟨0, Nat.zero_le _, rfl, rfl⟩
  case round =>
    obtain ⟨k, hk, rfl, rfl⟩ := hrel
    by_cases hlt : k < N
    · have hc := hcs k hlt
      have hl := pwh.placesTo_length win k
      have i1 : (0 : Int) ≤ (k : Int) := by omega
      cases hp : win k
      · have HM := Lib.hid (congrArg List.length (pwh.placesTo_miss win k hp))
        rw [hp] at hc
        clear hcs hp
        generalize (pwh.placesTo win k).length = m at *
        go_wp2_with fail
        go_round
        case rel => exact ⟨k + 1, by omega, by go_num, by rw [HM.out]⟩
        case measure => simp [intOf]; omega
      · have HM := Lib.hid (show (pwh.placesTo win (k + 1)).length = (pwh.placesTo win k).length + 1 by rw [pwh.placesTo_hit win k hp, List.length_append]; rfl)
        rw [hp] at hc
        clear hcs hp
        generalize (pwh.placesTo win k).length = m at *
        go_wp2_with fail
        go_round
        case rel => exact ⟨k + 1, by omega, by go_num, by rw [HM.out]; go_num⟩
        case measure => simp [intOf]; omega
    · obtain rfl : k = N := by omega
      clear hcs
      go_wp2_with fail
      go_ret2
      exact ⟨rfl, HB2.out⟩
set_option maxRecDepth 100000 in
theorem cw_closure (k g n : Nat) (p : Nat → Bool) (w : World) (hb : Box w g n p) (hk : k < 256) :
    Calls Try.prog 59 #[.int .i64 k, .pointer (some ⟨g, 0, none⟩)] w (fun e w' => e = .returned (.bool (p k)) ∧ Below w.heap.size w w') := by
  have hc := hb.cellAt k hk
  have i1 : (0 : Int) ≤ (k : Int) := by omega
  have i2 : (k : Int) < 256 := by omega
  clear hb
  go_enter Try.func59, Try.ntmps59
  go_wp2_with fail
  go_ret
  exact ⟨rfl, Below.refl _ _⟩
set_option maxRecDepth 100000 in
set_option maxHeartbeats 4000000 in
theorem impl_any (a : Option Addr) (ws : List Int) (c : Nat) (q : Int) (w : World) (hr : ints.Reads .i64 w a ws) (hn : ws.length ≤ 1048576) {n : Nat} {win : Nat → Bool} {ok : Bool} (hd : OfV ws q n win ok) :
    Calls Try.prog 27 #[.agg #[.slice a ws.length c, .int .i64 q]] w (RetNB (((pwh.placesTo win (2 ^ n)).length : Nat) : Int) ok w) := by
  have HOF := Lib.hid (fun (wa : World) (hb : Below w.heap.size w wa) => of_data a ws c q wa (hr.below hb) hn hd)
  have h8 := hd.le
  clear hr hd
  go_enter Try.func27, Try.ntmps27
  obtain ⟨w0, hw0⟩ : ∃ w0 : World, w0 = w.alloc (.cells #[.slice a ws.length c, .int .i64 q] 29) := ⟨_, rfl⟩
  have x0 : w0.cell? ⟨w.heap.size, 0, none⟩ = some (.slice a ws.length c) := by rw [hw0]; exact cell_new _ _ _ rfl rfl
  have x1 : w0.cell? ⟨w.heap.size, 1, none⟩ = some (.int .i64 q) := by rw [hw0]; exact cell_new _ _ _ rfl rfl
  have HB0 := Lib.hid (show Below w.heap.size w w0 by rw [hw0]; exact below_alloc w (.cells #[.slice a ws.length c, .int .i64 q] 29))
  have s0 : w.heap.size + 1 ≤ w0.heap.size := by rw [hw0]; simp
  go_wp2_with fail
  rw [← hw0]
  clear hw0
  refine (HOF.out _ HB0.out).mono ?_
  rintro e w1 ⟨rfl, hb1⟩
  have HB1 := Lib.hid (HB0.out.trans (hb1.mono (by omega)))
  have s1 := hb1.size
  clear hb1 x0 x1 HOF
  go_wp2_with (refine wp_alloc rfl rfl ?_; intro w2 hbx2 hb2 hz2; refine Hid.out ?_)
  have HB2 := Lib.hid (HB1.out.trans (hb2.mono (by omega)))
  clear hb2
  refine Lib.hid ?_
  go_wp2_with (refine wp_store rfl _ _ rfl w1.heap.size n (upto win (2 ^ n)) rfl rfl 0 no hbx2 ?_; intro w3 hbx3 ho3 hz3; refine Hid.out ?_)
  have HB3 := Lib.hid (HB2.out.trans ((ho3.below (by omega)).mono (by omega)))
  have s3 : w1.heap.size < w3.heap.size := by omega
  clear ho3 hbx2
  refine Lib.hid ?_
  go_wp2_with (refine wp_load rfl _ rfl w1.heap.size n (upto win (2 ^ n)) rfl hbx3 ?_)
  have HCW := Lib.hid (count1 59 (enters_of Try.func59 (by kernel_rfl) rfl) (.pointer (some ⟨w1.heap.size, 0, none⟩)) n (upto win (2 ^ n)) win w3 h8 (Lib.hid (fun k wr hk hb => by
    have hp := bits8.pow8 h8
    have h := cw_closure k w1.heap.size n (upto win (2 ^ n)) wr (hbx3.below hb s3) (by omega)
    rw [upto_at _ _ _ hk] at h
    exact h)))
  clear hbx3
  go_wp2_with fail
  refine HCW.out.mono ?_
  rintro e w4 ⟨rfl, hb4⟩
  have HB4 := Lib.hid (HB3.out.trans (hb4.mono (by omega)))
  clear hb4
  go_wp2_with fail
  go_ret2
  exact ⟨rfl, HB4.out⟩
end Go.Proofs.Ytkcpncngkmnmdaa.countw
