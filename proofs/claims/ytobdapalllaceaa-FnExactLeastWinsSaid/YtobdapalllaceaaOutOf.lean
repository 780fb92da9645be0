/- The walk of outcomeOf: the outcome of a vote. -/
import Derived.Test.YtobdapalllaceaaOutLaws
import Derived.Test.YtobdapalllaceaaWins
namespace Go.Proofs.Ytobdapalllaceaa.outc
open Go.RowKit own pp nums pv bits8 bitw mk wins
set_option linter.unusedVariables false
set_option linter.unusedSimpArgs false

theorem wp_build1 {ops : Array Oper} {rest : List Oper} {o : Oper} {a : Act} {w : World} {Q : Exit → Act → World → Prop} (hgd : o.guard = none) (x : Operand) (ho : o.op = .build 77 #[(0, x)]) (n : Nat) (hx : a.eval x = .int .i64 (n : Int))
    (h : wpList Try.prog ops Q rest (a.put o.dst (.agg (oc n no))) w) : wpList Try.prog ops Q (o :: rest) a w := by
  have e : (#[(0, x)].map fun ((i, x) : Nat × Operand) => (i, a.eval x)).toList = [(0, Value.int .i64 (n : Int))] := by simp [hx]
  refine wpList_build hgd 77 _ ho (by rw [e, built1]; rfl) ?_
  rw [e, built1]
  exact h
theorem wp_build0 {ops : Array Oper} {rest : List Oper} {o : Oper} {a : Act} {w : World} {Q : Exit → Act → World → Prop} (hgd : o.guard = none) (ho : o.op = .build 77 #[])
    (h : wpList Try.prog ops Q rest (a.put o.dst (.agg (oc 0 no))) w) : wpList Try.prog ops Q (o :: rest) a w := by
  have e : ((#[] : Array (Nat × Operand)).map fun ((i, x) : Nat × Operand) => (i, a.eval x)).toList = [] := by simp
  refine wpList_build hgd 77 _ ho (by rw [e, built0]; rfl) ?_
  rw [e, built0]
  exact h
theorem vote_small {ws : List Int} {q : Int} (h : voteB ws q = true) (k : Nat) : Small ws (bitsTo k ws.length) := wins.nums_small ((vote_iff _ _).1 h).2.1 k
set_option maxRecDepth 100000 in
set_option maxHeartbeats 4000000 in
theorem of_no (a : Option Addr) (ws : List Int) (c : Nat) (q : Int) (w : World) (hr : ints.Reads .i64 w a ws) (hn : ws.length ≤ 1048576) (hk : voteB ws q = false) :
    Calls Try.prog 72 #[.agg #[.slice a ws.length c, .int .i64 q]] w (RetO 0 no false w) := by
  have HV := Lib.hid (fun (wa : World) (hb : Below w.heap.size w wa) (ok : Bool) (h : Hid (voteB ws q = ok)) => vote.impl_vote a ws c q wa (hr.below hb) hn ok h)
  have HR := Lib.hid hr
  have HHK := Lib.hid hk
  clear hr hk
  go_enter Try.func72, Try.ntmps72
  obtain ⟨w0, hw0⟩ : ∃ w0 : World, w0 = w.alloc (.cells #[.slice a ws.length c, .int .i64 q] 34) := ⟨_, rfl⟩
  have x0 : w0.cell? ⟨w.heap.size, 0, none⟩ = some (.slice a ws.length c) := by rw [hw0]; exact cell_new _ _ _ rfl rfl
  have x1 : w0.cell? ⟨w.heap.size, 1, none⟩ = some (.int .i64 q) := by rw [hw0]; exact cell_new _ _ _ rfl rfl
  have HB0 := Lib.hid (show Below w.heap.size w w0 by rw [hw0]; exact below_alloc w (.cells #[.slice a ws.length c, .int .i64 q] 34))
  have s0 : w0.heap.size = w.heap.size + 1 := by rw [hw0]; simp
  go_wp2_with (refine wp_alloc rfl rfl ?_; intro w1 hbx1 hb1 hz1; rw [← hw0] at hbx1 hb1 hz1; refine Hid.out ?_)
  clear hw0
  rw [s0] at hbx1
  refine Lib.hid ?_
  have y0 := cell_below hb1 x0 (by omega)
  have y1 := cell_below hb1 x1 (by omega)
  have HB1 := Lib.hid (HB0.out.trans (hb1.mono (by omega)))
  have s1 : w1.heap.size = w.heap.size + 2 := by omega
  clear hb1 x0 x1 hz1
  go_wp2_with fail
  refine (HV.out _ HB1.out false HHK).mono ?_
  rintro e w2 ⟨rfl, hb2⟩
  have hbx2 := hbx1.below hb2 (by omega)
  have HB2 := Lib.hid (HB1.out.trans (hb2.mono (by omega)))
  have s2 := hb2.size
  clear hb2 hbx1
  go_wp2_with (first | (refine wp_build0 rfl rfl ?_) | (refine wp_store rfl _ _ rfl (w.heap.size + 1) 0 no rfl rfl 0 no hbx2 ?_; intro w3 hbx3 ho3 hz3))
  exact bodyPost_ret (v := .tuple #[.agg (oc 0 no), .bool false]) (results_oc2 rfl _ _ (w.heap.size + 1) 0 no _ rfl rfl hbx3) rfl ⟨rfl, HB2.out.trans ((ho3.below (by omega)).mono (by omega))⟩
set_option maxRecDepth 100000 in
set_option maxHeartbeats 4000000 in
theorem of_yes (a : Option Addr) (ws : List Int) (c : Nat) (q : Int) (w : World) (hr : ints.Reads .i64 w a ws) (hn : ws.length ≤ 1048576) (hk : voteB ws q = true) :
    Calls Try.prog 72 #[.agg #[.slice a ws.length c, .int .i64 q]] w (RetO ws.length (upto (winB ws q) (2 ^ ws.length)) true w) := by
  have h18 := ((vote_iff _ _).1 hk).1
  have HSm := Lib.hid (fun k (_ : k < 2 ^ ws.length) => vote_small hk k)
  have HV := Lib.hid (fun (wa : World) (hb : Below w.heap.size w wa) (ok : Bool) (h : Hid (voteB ws q = ok)) => vote.impl_vote a ws c q wa (hr.below hb) hn ok h)
  have HR := Lib.hid hr
  have HHK := Lib.hid hk
  clear hr hk
  go_enter Try.func72, Try.ntmps72
  obtain ⟨w0, hw0⟩ : ∃ w0 : World, w0 = w.alloc (.cells #[.slice a ws.length c, .int .i64 q] 34) := ⟨_, rfl⟩
  have x0 : w0.cell? ⟨w.heap.size, 0, none⟩ = some (.slice a ws.length c) := by rw [hw0]; exact cell_new _ _ _ rfl rfl
  have x1 : w0.cell? ⟨w.heap.size, 1, none⟩ = some (.int .i64 q) := by rw [hw0]; exact cell_new _ _ _ rfl rfl
  have HB0 := Lib.hid (show Below w.heap.size w w0 by rw [hw0]; exact below_alloc w (.cells #[.slice a ws.length c, .int .i64 q] 34))
  have s0 : w0.heap.size = w.heap.size + 1 := by rw [hw0]; simp
  go_wp2_with (refine wp_alloc rfl rfl ?_; intro w1 hbx1 hb1 hz1; rw [← hw0] at hbx1 hb1 hz1; refine Hid.out ?_)
  clear hw0
  rw [s0] at hbx1
  refine Lib.hid ?_
  have y0 := cell_below hb1 x0 (by omega)
  have y1 := cell_below hb1 x1 (by omega)
  have HB1 := Lib.hid (HB0.out.trans (hb1.mono (by omega)))
  have s1 : w1.heap.size = w.heap.size + 2 := by omega
  clear hb1 x0 x1 hz1
  go_wp2_with fail
  refine (HV.out _ HB1.out true HHK).mono ?_
  rintro e w2 ⟨rfl, hb2⟩
  have hbx2 := hbx1.below hb2 (by omega)
  have z0 := cell_below hb2 y0 (by omega)
  have z1 := cell_below hb2 y1 (by omega)
  have HB2 := Lib.hid (HB1.out.trans (hb2.mono (by omega)))
  have s2 := hb2.size
  clear hb2 hbx1 y0 y1
  go_wp2_with (first | (refine wp_build1 rfl _ rfl ws.length rfl ?_) | (refine wp_alloc rfl rfl ?_; intro w3 hbx3 hb3 hz3; refine Hid.out ?_))
  have u0 := cell_below hb3 z0 (by omega)
  have u1 := cell_below hb3 z1 (by omega)
  have hby3 := hbx2.below hb3 (by omega)
  have HB3 := Lib.hid (HB2.out.trans (hb3.mono (by omega)))
  clear hb3 z0 z1 hbx2
  refine Lib.hid ?_
  go_wp2_with (refine wp_store rfl _ _ rfl w2.heap.size ws.length no rfl rfl 0 no hbx3 ?_; intro w4 hbx4 ho4 hz4; refine Hid.out ?_)
  have v0 := ho4.cell u0 (by omega) (by omega)
  have v1 := ho4.cell u1 (by omega) (by omega)
  have hby4 := hby3.only ho4 (by omega)
  have HB4 := Lib.hid (HB3.out.trans ((ho4.below (by omega)).mono (by omega)))
  clear ho4 u0 u1 hbx3 hby3
  refine Lib.hid ?_
  go_wp2_with fail
  refine (impl_prods a ws c _ (HR.out.below HB4.out) h18.2 HSm).mono ?_
  rintro e w5 ⟨v, rfl, hov, hb5⟩
  obtain ⟨p, pc, rfl, _, _, _⟩ := hov.slice
  have hbx5 := hbx4.below hb5 (by omega)
  have q1 := cell_below hb5 v1 (by omega)
  have hby5 := hby4.below hb5 (by omega)
  have HB5 := Lib.hid (HB4.out.trans (hb5.mono (by omega)))
  have s5 := hb5.size
  have HO5 := Lib.hid hov
  clear hb5 hov hbx4 hby4 v0 v1
  have hp := pow8 h18.2
  have HG := Lib.hid (fun k (h : k < 2 ^ ws.length) => prods_getD ws k h)
  have HW := Lib.hid (fun k => show winB ws q k = decide (q ≤ pp.dot ws (bitsTo k ws.length)) from rfl)
  have HLN := Lib.hid (prods_length ws)
  generalize 2 ^ ws.length = N at *
  generalize winB ws q = win at *
  generalize hpr : prods ws = pr at *
  clear hpr HSm
  rw [HLN.out]
  rw [← upto_zero win] at hbx5
  go_wp2_with fail
  go_loopw [19] (fun i wr => ∃ k : Nat, k ≤ N ∧ i = .int .i64 k ∧ Box wr w2.heap.size ws.length (upto win k) ∧ Only w2.heap.size (w2.heap.size + 1) w5 wr) (fun i _ => N - (intOf i).toNat)
  case atStart => exact ⟨0, Nat.zero_le _, rfl, hbx5, Only.refl _ _ _⟩
  case round =>
    obtain ⟨k, hk, rfl, hbx, hon⟩ := hrel
    have HON := Lib.hid hon
    have sr := hon.size
    by_cases hlt : k < N
    · have hrd := (HO5.out.only hon (.inr (by omega))).reads
      obtain ⟨b, off, rfl, hbl, hc⟩ := hrd.at (k := k) (by rw [HLN.out]; exact hlt)
      rw [HG.out k hlt] at hc
      have q1r := hon.cell q1 (by omega) (by omega)
      have hfr := hbx.frozen (1 + k)
      have hcl := hbx.cellAt k (by omega)
      have hset := hbx.set (by omega)
      rw [HW.out k] at hset
      have HS := Lib.hid hset
      have HO := Lib.hid (hon.trans (only_set wr w2.heap.size (1 + k) (.bool (decide (q ≤ pp.dot ws (bitsTo k ws.length))))))
      clear hrd hon hbx hset hbl
      generalize pp.dot ws (bitsTo k ws.length) = x at *
      have i1 : (0 : Int) ≤ (k : Int) := by omega
      have i2 : (k : Int) < 256 := by omega
      go_wp2_with fail
      go_roundw
      case rel => exact ⟨k + 1, by omega, by go_num, HS.out, HO.out⟩
      case measure => simp [intOf]; omega
    · obtain rfl : k = N := by omega
      have hbyr := hby5.only hon (by omega)
      clear hon
      go_wp2_with (first | (refine wp_load rfl _ rfl _ ws.length (upto win k) rfl hbx ?_) | (refine wp_store rfl _ _ rfl (w.heap.size + 1) ws.length (upto win k) rfl rfl 0 no hbyr ?_; intro w7 hbx7 ho7 hz7))
      exact bodyPost_ret (v := .tuple #[.agg (oc ws.length (upto win k)), .bool true]) (results_oc2 rfl _ _ (w.heap.size + 1) ws.length (upto win k) _ rfl rfl hbx7) rfl ⟨rfl, HB5.out.trans (((HON.out.below (by omega)).mono (by omega)).trans ((ho7.below (by omega)).mono (by omega)))⟩
/-- What a vote, or what is none, comes to: the voters, the sets that win, and whether it is one. -/
def OfV (ws : List Int) (q : Int) (n : Nat) (win : Nat → Bool) (ok : Bool) : Prop :=
  (voteB ws q = true ∧ n = ws.length ∧ win = winB ws q ∧ ok = true) ∨ (voteB ws q = false ∧ n = 0 ∧ win = no ∧ ok = false)
theorem OfV.le {ws : List Int} {q : Int} {n : Nat} {win : Nat → Bool} {ok : Bool} (h : OfV ws q n win ok) : n ≤ 8 := by
  rcases h with ⟨h1, rfl, _⟩ | ⟨_, rfl, _⟩
  · exact ((vote_iff _ _).1 h1).1.2
  · omega
theorem upto_no (k : Nat) : upto no k = no := by funext j; simp [upto, no]
theorem of_data (a : Option Addr) (ws : List Int) (c : Nat) (q : Int) (w : World) (hr : ints.Reads .i64 w a ws) (hn : ws.length ≤ 1048576) {n : Nat} {win : Nat → Bool} {ok : Bool} (hd : OfV ws q n win ok) :
    Calls Try.prog 72 #[.agg #[.slice a ws.length c, .int .i64 q]] w (RetO n (upto win (2 ^ n)) ok w) := by
  rcases hd with ⟨h1, rfl, rfl, rfl⟩ | ⟨h1, rfl, rfl, rfl⟩
  · exact of_yes a ws c q w hr hn h1
  · rw [upto_no]
    exact of_no a ws c q w hr hn h1
end Go.Proofs.Ytobdapalllaceaa.outc
