/- The walks of WinsWith: the model's and the program's. -/
import Derived.Test.YtcklehfcpengoaaPWins
import Derived.BigQuiet
namespace Go.Proofs.Ytcklehfcpengoaa.winsw
open Go.RowKit own pp nums pv rising bitw wins ownb pw
set_option linter.unusedVariables false
set_option linter.unusedSimpArgs false

/-- A valid vote, and a set of its voters. -/
def setB (ws : List Int) (q : Int) (zs : List Int) : Bool := voteB ws q && risesB (ws.length : Int) zs
set_option maxRecDepth 100000 in
set_option maxHeartbeats 2000000 in
theorem spec_set (a : Option Addr) (ws : List Int) (c : Nat) (q : Int) (p : Option Addr) (zs : List Int) (d : Nat) (w : World) (hr : ints.Reads .i64 w a ws) (hq : ints.Reads .i64 w p zs) (hn : ws.length ≤ 1048576) (hm : zs.length ≤ 1048576) (ok : Bool) (h : Hid (setB ws q zs = ok)) :
    Calls Try.prog 52 #[.agg #[.slice a ws.length c, .int .i64 q], .slice p zs.length d] w (RetB ok w) := by
  cases hv : voteB ws q
  · obtain rfl : ok = false := by rw [← h.out]; unfold setB; rw [hv]; rfl
    have HV := Lib.hid (fun (wa : World) (hb : Below w.heap.size w wa) => vote.spec_vote a ws c q wa (hr.below hb) hn false (Lib.hid hv))
    clear hr hq hv h
    go_enter Try.func52, Try.ntmps52
    obtain ⟨w0, hw0⟩ : ∃ w0 : World, w0 = w.alloc (.cells #[.slice a ws.length c, .int .i64 q] 27) := ⟨_, rfl⟩
    have x0 : w0.cell? ⟨w.heap.size, 0, none⟩ = some (.slice a ws.length c) := by rw [hw0]; exact cell_new _ _ _ rfl rfl
    have x1 : w0.cell? ⟨w.heap.size, 1, none⟩ = some (.int .i64 q) := by rw [hw0]; exact cell_new _ _ _ rfl rfl
    have HB0 := Lib.hid (show Below w.heap.size w w0 by rw [hw0]; exact below_alloc w (.cells #[.slice a ws.length c, .int .i64 q] 27))
    have s0 : w.heap.size + 1 ≤ w0.heap.size := by rw [hw0]; simp
    go_wp2_with fail
    rw [← hw0]
    clear hw0
    refine (HV.out _ HB0.out).mono ?_
    rintro e w1 ⟨rfl, hb1⟩
    have HB1 := Lib.hid (HB0.out.trans (hb1.mono (by omega)))
    clear hb1
    go_wp2_with fail
    go_ret
    exact ⟨rfl, HB1.out⟩
  · have HV := Lib.hid (fun (wa : World) (hb : Below w.heap.size w wa) => vote.spec_vote a ws c q wa (hr.below hb) hn true (Lib.hid hv))
    have HRi := Lib.hid (fun (wa : World) (hb : Below w.heap.size w wa) => spec_rising p zs d (ws.length : Int) wa (hq.below hb) hm ok (Lib.hid (by rw [← h.out]; unfold setB; rw [hv]; rfl)))
    clear hr hq hv h
    go_enter Try.func52, Try.ntmps52
    obtain ⟨w0, hw0⟩ : ∃ w0 : World, w0 = w.alloc (.cells #[.slice a ws.length c, .int .i64 q] 27) := ⟨_, rfl⟩
    have x0 : w0.cell? ⟨w.heap.size, 0, none⟩ = some (.slice a ws.length c) := by rw [hw0]; exact cell_new _ _ _ rfl rfl
    have x1 : w0.cell? ⟨w.heap.size, 1, none⟩ = some (.int .i64 q) := by rw [hw0]; exact cell_new _ _ _ rfl rfl
    have HB0 := Lib.hid (show Below w.heap.size w w0 by rw [hw0]; exact below_alloc w (.cells #[.slice a ws.length c, .int .i64 q] 27))
    have s0 : w.heap.size + 1 ≤ w0.heap.size := by rw [hw0]; simp
    go_wp2_with fail
    rw [← hw0]
    clear hw0
    refine (HV.out _ HB0.out).mono ?_
    rintro e w1 ⟨rfl, hb1⟩
    have y0 := cell_below hb1 x0 (by omega)
    have HB1 := Lib.hid (HB0.out.trans (hb1.mono (by omega)))
    have s1 := hb1.size
    clear hb1 x0 x1
    go_wp2_with fail
    refine (HRi.out _ HB1.out).mono ?_
    rintro e w2 ⟨rfl, m, rfl⟩
    go_wp2_with fail
    go_ret
    exact ⟨rfl, ints.below_drewN HB1.out _⟩
set_option maxRecDepth 100000 in
set_option maxHeartbeats 4000000 in
theorem spec_no (a : Option Addr) (ws : List Int) (c : Nat) (q : Int) (p : Option Addr) (zs : List Int) (d : Nat) (w : World) (hr : ints.Reads .i64 w a ws) (hq : ints.Reads .i64 w p zs) (hn : ws.length ≤ 1048576) (hm : zs.length ≤ 1048576) (hk : setB ws q zs = false) :
    Calls Try.prog 20 #[.agg #[.slice a ws.length c, .int .i64 q], .slice p zs.length d] w (RetBB false false w) := by
  have HV := Lib.hid (fun (wa : World) (hb : Below w.heap.size w wa) => spec_set a ws c q p zs d wa (hr.below hb) (hq.below hb) hn hm false (Lib.hid hk))
  clear hr hq hk
  go_enter Try.func20, Try.ntmps20
  obtain ⟨w0, hw0⟩ : ∃ w0 : World, w0 = w.alloc (.cells #[.slice a ws.length c, .int .i64 q] 27) := ⟨_, rfl⟩
  have x0 : w0.cell? ⟨w.heap.size, 0, none⟩ = some (.slice a ws.length c) := by rw [hw0]; exact cell_new _ _ _ rfl rfl
  have x1 : w0.cell? ⟨w.heap.size, 1, none⟩ = some (.int .i64 q) := by rw [hw0]; exact cell_new _ _ _ rfl rfl
  have HB0 := Lib.hid (show Below w.heap.size w w0 by rw [hw0]; exact below_alloc w (.cells #[.slice a ws.length c, .int .i64 q] 27))
  have s0 : w.heap.size + 1 ≤ w0.heap.size := by rw [hw0]; simp
  go_wp2_with fail
  rw [← hw0]
  clear hw0
  refine (HV.out _ HB0.out).mono ?_
  rintro e w1 ⟨rfl, hb1⟩
  have HB1 := Lib.hid (HB0.out.trans (hb1.mono (by omega)))
  clear hb1
  go_wp2_with fail
  go_ret2
  exact ⟨rfl, HB1.out⟩
set_option maxRecDepth 100000 in
set_option maxHeartbeats 4000000 in
theorem spec_yes (a : Option Addr) (ws : List Int) (c : Nat) (q : Int) (p : Option Addr) (zs : List Int) (d : Nat) (w : World) (hr : ints.Reads .i64 w a ws) (hq : ints.Reads .i64 w p zs) (hn : ws.length ≤ 1048576) (hm : zs.length ≤ 1048576) (hk : setB ws q zs = true) :
    Calls Try.prog 20 #[.agg #[.slice a ws.length c, .int .i64 q], .slice p zs.length d] w (RetBB (winB ws q (codeTo zs zs.length)) true w) := by
  have HV := Lib.hid (fun (wa : World) (hb : Below w.heap.size w wa) => spec_set a ws c q p zs d wa (hr.below hb) (hq.below hb) hn hm true (Lib.hid hk))
  have hv : voteB ws q = true := by unfold setB at hk; rw [Bool.and_eq_true] at hk; exact hk.1
  have hrs : risesB (ws.length : Int) zs = true := by unfold setB at hk; rw [Bool.and_eq_true] at hk; exact hk.2
  have h18 := ((vote_iff _ _).1 hv).1
  have hzz := ((vote_iff _ _).1 hv).2.1
  have hp12 := bits8.pow8 h18.2
  have HW := Lib.hid (fun (wa : World) (hb : Below w.heap.size w wa) => wins.spec_wins a ws c q wa (hr.below hb) hn h18.2 hzz)
  have HF := Lib.hid (fun k (hk : k < zs.length) => rise_fit hrs k hk)
  have HCL := Lib.hid (fun k (hk : k ≤ zs.length) => code_lt hrs k hk)
  have HS := Lib.hid (fun k => show codeTo zs (k + 1) = codeTo zs k + 2 ^ (zs.getD k 0).toNat from rfl)
  have HQ := Lib.hid hq
  clear hr hq hk hv hrs
  go_enter Try.func20, Try.ntmps20
  obtain ⟨w0, hw0⟩ : ∃ w0 : World, w0 = w.alloc (.cells #[.slice a ws.length c, .int .i64 q] 27) := ⟨_, rfl⟩
  have x0 : w0.cell? ⟨w.heap.size, 0, none⟩ = some (.slice a ws.length c) := by rw [hw0]; exact cell_new _ _ _ rfl rfl
  have x1 : w0.cell? ⟨w.heap.size, 1, none⟩ = some (.int .i64 q) := by rw [hw0]; exact cell_new _ _ _ rfl rfl
  have HB0 := Lib.hid (show Below w.heap.size w w0 by rw [hw0]; exact below_alloc w (.cells #[.slice a ws.length c, .int .i64 q] 27))
  have s0 : w.heap.size + 1 ≤ w0.heap.size := by rw [hw0]; simp
  go_wp2_with fail
  rw [← hw0]
  clear hw0
  refine (HV.out _ HB0.out).mono ?_
  rintro e w1 ⟨rfl, hb1⟩
  have y0 := cell_below hb1 x0 (by omega)
  have y1 := cell_below hb1 x1 (by omega)
  have HB1 := Lib.hid (HB0.out.trans (hb1.mono (by omega)))
  have s1 := hb1.size
  clear hb1 x0 x1 HV
  go_wp2_with fail
  go_loop [6, 7] (fun s i => ∃ k : Nat, k ≤ zs.length ∧ i = .int .i64 k ∧ s = .int .i64 ((codeTo zs k : Nat) : Int)) (fun _ i => zs.length - (intOf i).toNat)
  case atStart => exact ⟨0, Nat.zero_le _, rfl, rfl⟩
  case round =>
    obtain ⟨k, hk, rfl, rfl⟩ := hrel
    have hcl := HCL.out k hk
    by_cases hlt : k < zs.length
    · obtain ⟨b, off, rfl, hbl, hc⟩ := (HQ.out.below HB1.out).at hlt
      have hf := HF.out k hlt
      have HSk := HS.out k
      obtain ⟨z, hz⟩ : ∃ z : Nat, zs.getD k 0 = z := ⟨(zs.getD k 0).toNat, by omega⟩
      rw [hz] at hc HSk hf
      have hz8 : z < 8 := by omega
      have hp := bits8.pow8 (n := z) (by omega)
      simp only [Int.toNat_natCast] at HSk
      obtain ⟨Z, hZ⟩ : ∃ Z : Nat, 2 ^ z = Z := ⟨_, rfl⟩
      have h2 : (2 : Int) ^ z = (Z : Int) := by rw [← hZ]; simp
      rw [hZ] at HSk hp
      have HSH := Lib.hid HSk
      clear hZ hz HSk hbl
      generalize codeTo zs k = C at *
      go_wp2_with fail
      go_round
      case rel => exact ⟨k + 1, by omega, by go_num, by rw [HSH.out]; go_num⟩
      case measure => simp [intOf]; omega
    · obtain rfl : k = zs.length := by omega
      go_wp2_with fail
      refine (HW.out _ HB1.out).mono ?_
      rintro e w2 ⟨v, rfl, how, hb2⟩
      obtain ⟨gb, cb, rfl, g1, g2, g3, g4, hcs⟩ := how.slice hp12.1
      have HB12 := Lib.hid hb2
      have HB2 := Lib.hid (HB1.out.trans (hb2.mono (by omega)))
      have s2 := hb2.size
      have HOW := Lib.hid how
      clear hb2 how HW
      have hc := hcs (codeTo zs zs.length) hcl
      clear hcs HB12 HOW
      generalize codeTo zs zs.length = C at *
      generalize winB ws q = win at *
      generalize 2 ^ ws.length = N at *
      have i1 : (0 : Int) ≤ (C : Int) := by omega
      have i2 : (C : Int) < (N : Int) := by omega
      go_wp2_with fail
      go_ret2
      exact ⟨rfl, HB2.out⟩
set_option maxRecDepth 100000 in
set_option maxHeartbeats 4000000 in
theorem impl_novote (a : Option Addr) (ws : List Int) (c : Nat) (q : Int) (p : Option Addr) (zs : List Int) (d : Nat) (w : World) (hr : ints.Reads .i64 w a ws) (hq : ints.Reads .i64 w p zs) (hn : ws.length ≤ 1048576) (hm : zs.length ≤ 1048576) (hk : voteB ws q = false) :
    Calls Try.prog 22 #[.agg #[.slice a ws.length c, .int .i64 q], .slice p zs.length d] w (RetBB false false w) := by
  have HV := Lib.hid (fun (wa : World) (hb : Below w.heap.size w wa) => vote.impl_vote a ws c q wa (hr.below hb) hn false (Lib.hid hk))
  clear hr hq hk
  go_enter Try.func22, Try.ntmps22
  obtain ⟨w0, hw0⟩ : ∃ w0 : World, w0 = w.alloc (.cells #[.slice a ws.length c, .int .i64 q] 27) := ⟨_, rfl⟩
  have x0 : w0.cell? ⟨w.heap.size, 0, none⟩ = some (.slice a ws.length c) := by rw [hw0]; exact cell_new _ _ _ rfl rfl
  have x1 : w0.cell? ⟨w.heap.size, 1, none⟩ = some (.int .i64 q) := by rw [hw0]; exact cell_new _ _ _ rfl rfl
  have HB0 := Lib.hid (show Below w.heap.size w w0 by rw [hw0]; exact below_alloc w (.cells #[.slice a ws.length c, .int .i64 q] 27))
  have s0 : w.heap.size + 1 ≤ w0.heap.size := by rw [hw0]; simp
  go_wp2_with fail
  rw [← hw0]
  clear hw0
  refine (HV.out _ HB0.out).mono ?_
  rintro e w1 ⟨rfl, hb1⟩
  have HB1 := Lib.hid (HB0.out.trans (hb1.mono (by omega)))
  clear hb1
  go_wp2_with fail
  go_ret2
  exact ⟨rfl, HB1.out⟩
set_option maxRecDepth 100000 in
set_option maxHeartbeats 4000000 in
theorem impl_noset (a : Option Addr) (ws : List Int) (c : Nat) (q : Int) (p : Option Addr) (zs : List Int) (d : Nat) (w : World) (hr : ints.Reads .i64 w a ws) (hq : ints.Reads .i64 w p zs) (hn : ws.length ≤ 1048576) (hm : zs.length ≤ 1048576) (hk : voteB ws q = true) (hs : risesB (ws.length : Int) zs = false) :
    Calls Try.prog 22 #[.agg #[.slice a ws.length c, .int .i64 q], .slice p zs.length d] w (RetBB false false w) := by
  have HV := Lib.hid (fun (wa : World) (hb : Below w.heap.size w wa) => vote.impl_vote a ws c q wa (hr.below hb) hn true (Lib.hid hk))
  have HRi := Lib.hid (fun (wa : World) (hb : Below w.heap.size w wa) => impl_places p zs d (ws.length : Int) wa (hq.below hb) hm false (Lib.hid hs))
  clear hr hq hk hs
  go_enter Try.func22, Try.ntmps22
  obtain ⟨w0, hw0⟩ : ∃ w0 : World, w0 = w.alloc (.cells #[.slice a ws.length c, .int .i64 q] 27) := ⟨_, rfl⟩
  have x0 : w0.cell? ⟨w.heap.size, 0, none⟩ = some (.slice a ws.length c) := by rw [hw0]; exact cell_new _ _ _ rfl rfl
  have x1 : w0.cell? ⟨w.heap.size, 1, none⟩ = some (.int .i64 q) := by rw [hw0]; exact cell_new _ _ _ rfl rfl
  have HB0 := Lib.hid (show Below w.heap.size w w0 by rw [hw0]; exact below_alloc w (.cells #[.slice a ws.length c, .int .i64 q] 27))
  have s0 : w.heap.size + 1 ≤ w0.heap.size := by rw [hw0]; simp
  go_wp2_with fail
  rw [← hw0]
  clear hw0
  refine (HV.out _ HB0.out).mono ?_
  rintro e w1 ⟨rfl, hb1⟩
  have y0 := cell_below hb1 x0 (by omega)
  have HB1 := Lib.hid (HB0.out.trans (hb1.mono (by omega)))
  clear hb1
  go_wp2_with fail
  refine (HRi.out _ HB1.out).mono ?_
  rintro e w2 ⟨rfl, rfl⟩
  go_wp2_with fail
  go_ret2
  exact ⟨rfl, HB1.out⟩
set_option maxRecDepth 100000 in
set_option maxHeartbeats 4000000 in
theorem impl_yes (a : Option Addr) (ws : List Int) (c : Nat) (q : Int) (p : Option Addr) (zs : List Int) (d : Nat) (w : World) (hr : ints.Reads .i64 w a ws) (hq : ints.Reads .i64 w p zs) (hn : ws.length ≤ 1048576) (hm : zs.length ≤ 1048576) (hk : voteB ws q = true) (hs : risesB (ws.length : Int) zs = true) :
    Calls Try.prog 22 #[.agg #[.slice a ws.length c, .int .i64 q], .slice p zs.length d] w (RetBB (decide (q ≤ sumP ws zs zs.length)) true w) := by
  have HV := Lib.hid (fun (wa : World) (hb : Below w.heap.size w wa) => vote.impl_vote a ws c q wa (hr.below hb) hn true (Lib.hid hk))
  have HRi := Lib.hid (fun (wa : World) (hb : Below w.heap.size w wa) => impl_places p zs d (ws.length : Int) wa (hq.below hb) hm true (Lib.hid hs))
  have HF := Lib.hid (fun k (hk : k < zs.length) => rise_fit hs k hk)
  have HA := Lib.hid (fun j (hj : j < ws.length) => vote_at hk j hj)
  have HBD := Lib.hid (fun k (h : k ≤ zs.length) => sumP_bd (fun j hj => vote_at hk j hj) hs k h)
  have HS := Lib.hid (fun k => show sumP ws zs (k + 1) = sumP ws zs k + ws.getD (zs.getD k 0).toNat 0 from rfl)
  have HQ := Lib.hid hq
  have HR := Lib.hid hr
  clear hr hq hk hs
  go_enter Try.func22, Try.ntmps22
  obtain ⟨w0, hw0⟩ : ∃ w0 : World, w0 = w.alloc (.cells #[.slice a ws.length c, .int .i64 q] 27) := ⟨_, rfl⟩
  have x0 : w0.cell? ⟨w.heap.size, 0, none⟩ = some (.slice a ws.length c) := by rw [hw0]; exact cell_new _ _ _ rfl rfl
  have x1 : w0.cell? ⟨w.heap.size, 1, none⟩ = some (.int .i64 q) := by rw [hw0]; exact cell_new _ _ _ rfl rfl
  have HB0 := Lib.hid (show Below w.heap.size w w0 by rw [hw0]; exact below_alloc w (.cells #[.slice a ws.length c, .int .i64 q] 27))
  have s0 : w.heap.size + 1 ≤ w0.heap.size := by rw [hw0]; simp
  go_wp2_with fail
  rw [← hw0]
  clear hw0
  refine (HV.out _ HB0.out).mono ?_
  rintro e w1 ⟨rfl, hb1⟩
  have y0 := cell_below hb1 x0 (by omega)
  have y1 := cell_below hb1 x1 (by omega)
  have HB1 := Lib.hid (HB0.out.trans (hb1.mono (by omega)))
  clear hb1 x0 x1
  go_wp2_with fail
  refine (HRi.out _ HB1.out).mono ?_
  rintro e w2 ⟨rfl, rfl⟩
  clear HV HRi
  go_wp2_with fail
  go_loop [6, 22] (fun s i => ∃ k : Nat, k ≤ zs.length ∧ i = .int .i64 k ∧ s = .int .i64 (sumP ws zs k)) (fun _ i => zs.length - (intOf i).toNat)
  case atStart => exact ⟨0, Nat.zero_le _, rfl, rfl⟩
  case round =>
    obtain ⟨k, hk, rfl, rfl⟩ := hrel
    have hbd := HBD.out k hk
    by_cases hlt : k < zs.length
    · obtain ⟨b, off, rfl, hbl, hc⟩ := (HQ.out.below HB1.out).at hlt
      have hf := HF.out k hlt
      have HSk := HS.out k
      obtain ⟨z, hz⟩ : ∃ z : Nat, zs.getD k 0 = z := ⟨(zs.getD k 0).toNat, by omega⟩
      rw [hz] at hc HSk hf
      have hzl : z < ws.length := by omega
      obtain ⟨b2, off2, rfl, hbl2, hc2⟩ := (HR.out.below HB1.out).at hzl
      have ha := HA.out z hzl
      simp only [Int.toNat_natCast] at HSk
      have HSH := Lib.hid HSk
      clear hz HSk hbl hbl2
      generalize ws.getD z 0 = x at *
      generalize sumP ws zs k = S at *
      have i1 : (0 : Int) ≤ (z : Int) := by omega
      have i2 : (z : Int) < (ws.length : Int) := by omega
      go_wp2_with fail
      go_round
      case rel => exact ⟨k + 1, by omega, by go_num, by rw [HSH.out]⟩
      case measure => simp [intOf]; omega
    · obtain rfl : k = zs.length := by omega
      generalize sumP ws zs zs.length = S at *
      go_wp2_with fail
      go_ret2
      exact ⟨rfl, HB1.out⟩
end Go.Proofs.Ytcklehfcpengoaa.winsw
