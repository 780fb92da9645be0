/- The walks of PivotalVoter: the model's and the program's. -/
import Derived.Test.YtobdapalllaceaaOrder8
import Derived.Test.YtobdapalllaceaaVote
import Derived.BigQuiet
import Derived.WalkMore
import Derived.ScopeJumps
namespace Go.Proofs.Ytobdapalllaceaa.pivotw
open Go.RowKit own pp nums pv has permp pw permq
set_option linter.unusedVariables false
set_option linter.unusedSimpArgs false

theorem psum_bd {ws zs : List Int} (hw : ∀ j, j < ws.length → 0 ≤ ws.getD j 0 ∧ ws.getD j 0 ≤ 20) (h : orderB ws.length zs = true) (k : Nat) (hk : k ≤ zs.length) : 0 ≤ sumP ws zs k ∧ sumP ws zs k ≤ (20 * k : Nat) := by
  induction k with
  | zero => simp [sumP]
  | succ k ih =>
    have h1 := ih (by omega)
    have h2 := ok_fit h k (by omega)
    have h3 := hw (zs.getD k 0).toNat (by omega)
    show 0 ≤ sumP ws zs k + _ ∧ sumP ws zs k + _ ≤ _
    rw [Nat.mul_succ]
    omega
set_option maxRecDepth 100000 in
set_option maxHeartbeats 4000000 in
theorem spec_novote (a : Option Addr) (ws : List Int) (c : Nat) (q : Int) (p : Option Addr) (zs : List Int) (d : Nat) (w : World) (hr : ints.Reads .i64 w a ws) (hq : ints.Reads .i64 w p zs) (hn : ws.length ≤ 1048576) (hm : zs.length ≤ 1048576) (hk : voteB ws q = false) :
    Calls Try.prog 22 #[.agg #[.slice a ws.length c, .int .i64 q], .slice p zs.length d] w (RetNB 0 false w) := by
  have HV := Lib.hid (fun (wa : World) (hb : Below w.heap.size w wa) => vote.spec_vote a ws c q wa (hr.below hb) hn false (Lib.hid hk))
  clear hr hq hk
  go_enter Try.func22, Try.ntmps22
  obtain ⟨w0, hw0⟩ : ∃ w0 : World, w0 = w.alloc (.cells #[.slice a ws.length c, .int .i64 q] 34) := ⟨_, rfl⟩
  have x0 : w0.cell? ⟨w.heap.size, 0, none⟩ = some (.slice a ws.length c) := by rw [hw0]; exact cell_new _ _ _ rfl rfl
  have x1 : w0.cell? ⟨w.heap.size, 1, none⟩ = some (.int .i64 q) := by rw [hw0]; exact cell_new _ _ _ rfl rfl
  have HB0 := Lib.hid (show Below w.heap.size w w0 by rw [hw0]; exact below_alloc w (.cells #[.slice a ws.length c, .int .i64 q] 34))
  have s0 : w.heap.size + 1 ≤ w0.heap.size := by rw [hw0]; simp
  go_wp2_with fail
  rw [← hw0]
  clear hw0
  refine (HV.out _ HB0.out).mono ?_
  rintro e w1 ⟨rfl, hb1⟩
  have y0 := cell_below hb1 x0 (by omega)
  have y1 := cell_below hb1 x1 (by omega)
  have HB1 := Lib.hid (HB0.out.trans (hb1.mono (by omega)))
  have s1 := hb1.size
  clear hb1 x0 x1 HV
  go_wp2_with fail
  go_ret2
  exact ⟨rfl, HB1.out⟩
set_option maxRecDepth 100000 in
set_option maxHeartbeats 4000000 in
theorem spec_nolen (a : Option Addr) (ws : List Int) (c : Nat) (q : Int) (p : Option Addr) (zs : List Int) (d : Nat) (w : World) (hr : ints.Reads .i64 w a ws) (hq : ints.Reads .i64 w p zs) (hn : ws.length ≤ 1048576) (hm : zs.length ≤ 1048576) (hk : voteB ws q = true) (hl : zs.length ≠ ws.length) :
    Calls Try.prog 22 #[.agg #[.slice a ws.length c, .int .i64 q], .slice p zs.length d] w (RetNB 0 false w) := by
  have HV := Lib.hid (fun (wa : World) (hb : Below w.heap.size w wa) => vote.spec_vote a ws c q wa (hr.below hb) hn true (Lib.hid hk))
  have g1 : ((zs.length : Int) != (ws.length : Int)) = true := by rw [bne_iff_ne]; omega
  clear hr hq hk hl
  go_enter Try.func22, Try.ntmps22
  obtain ⟨w0, hw0⟩ : ∃ w0 : World, w0 = w.alloc (.cells #[.slice a ws.length c, .int .i64 q] 34) := ⟨_, rfl⟩
  have x0 : w0.cell? ⟨w.heap.size, 0, none⟩ = some (.slice a ws.length c) := by rw [hw0]; exact cell_new _ _ _ rfl rfl
  have x1 : w0.cell? ⟨w.heap.size, 1, none⟩ = some (.int .i64 q) := by rw [hw0]; exact cell_new _ _ _ rfl rfl
  have HB0 := Lib.hid (show Below w.heap.size w w0 by rw [hw0]; exact below_alloc w (.cells #[.slice a ws.length c, .int .i64 q] 34))
  have s0 : w.heap.size + 1 ≤ w0.heap.size := by rw [hw0]; simp
  go_wp2_with fail
  rw [← hw0]
  clear hw0
  refine (HV.out _ HB0.out).mono ?_
  rintro e w1 ⟨rfl, hb1⟩
  have y0 := cell_below hb1 x0 (by omega)
  have y1 := cell_below hb1 x1 (by omega)
  have HB1 := Lib.hid (HB0.out.trans (hb1.mono (by omega)))
  have s1 := hb1.size
  clear hb1 x0 x1 HV
  go_wp2_with fail
  go_ret2
  exact ⟨rfl, HB1.out⟩
set_option maxRecDepth 100000 in
set_option maxHeartbeats 4000000 in
theorem spec_noorder (a : Option Addr) (ws : List Int) (c : Nat) (q : Int) (p : Option Addr) (zs : List Int) (d : Nat) (w : World) (hr : ints.Reads .i64 w a ws) (hq : ints.Reads .i64 w p zs) (hn : ws.length ≤ 1048576) (hm : zs.length ≤ 1048576) (hk : voteB ws q = true) (hl : zs.length = ws.length) (ho : permB ws.length zs = false) :
    Calls Try.prog 22 #[.agg #[.slice a ws.length c, .int .i64 q], .slice p zs.length d] w (RetNB 0 false w) := by
  have HV := Lib.hid (fun (wa : World) (hb : Below w.heap.size w wa) => vote.spec_vote a ws c q wa (hr.below hb) hn true (Lib.hid hk))
  have g1 : ((zs.length : Int) != (ws.length : Int)) = false := by rw [bne_eq_false_iff_eq]; omega
  have HH := Lib.hid (fun (i : Nat) (wa : World) (hb : Below w.heap.size w wa) (ok : Bool) (h : hasB zs (i : Int) = ok) => spec_has p zs d (i : Int) wa (hq.below hb) hm ok (Lib.hid h))
  have HNO := Lib.hid (fun (h : ∀ i, i < ws.length → hasB zs (i : Int) = true) => (show False by rw [perm_ok hl h] at ho; cases ho))
  have h18 := ((vote_iff _ _).1 hk).1
  clear hr hq hk hl ho
  go_enter Try.func22, Try.ntmps22
  obtain ⟨w0, hw0⟩ : ∃ w0 : World, w0 = w.alloc (.cells #[.slice a ws.length c, .int .i64 q] 34) := ⟨_, rfl⟩
  have x0 : w0.cell? ⟨w.heap.size, 0, none⟩ = some (.slice a ws.length c) := by rw [hw0]; exact cell_new _ _ _ rfl rfl
  have x1 : w0.cell? ⟨w.heap.size, 1, none⟩ = some (.int .i64 q) := by rw [hw0]; exact cell_new _ _ _ rfl rfl
  have HB0 := Lib.hid (show Below w.heap.size w w0 by rw [hw0]; exact below_alloc w (.cells #[.slice a ws.length c, .int .i64 q] 34))
  have s0 : w.heap.size + 1 ≤ w0.heap.size := by rw [hw0]; simp
  go_wp2_with fail
  rw [← hw0]
  clear hw0
  refine (HV.out _ HB0.out).mono ?_
  rintro e w1 ⟨rfl, hb1⟩
  have y0 := cell_below hb1 x0 (by omega)
  have y1 := cell_below hb1 x1 (by omega)
  have HB1 := Lib.hid (HB0.out.trans (hb1.mono (by omega)))
  have s1 := hb1.size
  clear hb1 x0 x1 HV
  go_wp2_with fail
  go_loop [6] (fun i => ∃ k : Nat, k ≤ ws.length ∧ i = .int .i64 k ∧ Hid (∀ j, j < k → hasB zs (j : Int) = true)) (fun i => ws.length - (intOf i).toNat)
  case atStart => exact ⟨0, Nat.zero_le _, rfl, Lib.hid (fun j hj => by omega)⟩
  case round =>
    obtain ⟨k, hk, rfl, hj⟩ := hrel
    by_cases hlt : k < ws.length
    · cases hx : hasB zs (k : Int)
      · have HC := Lib.hid (HH.out k w1 HB1.out false hx)
        clear hx hj
        go_wp2_with fail
        refine HC.out.mono ?_
        rintro e w' ⟨rfl, rfl⟩
        go_wp2_with fail
        go_ret2
        exact ⟨rfl, HB1.out⟩
      · have HC := Lib.hid (HH.out k w1 HB1.out true hx)
        have HJ : Hid (∀ j, j < k + 1 → hasB zs (j : Int) = true) := Lib.hid (fun j h => by
          by_cases e : j = k
          · rw [e]; exact hx
          · exact hj.out j (by omega))
        clear hx hj
        go_wp2_with fail
        refine HC.out.mono ?_
        rintro e w' ⟨rfl, rfl⟩
        go_wp2_with fail
        go_round
        case rel => exact ⟨k + 1, by omega, by go_num, HJ⟩
        case measure => simp [intOf]; omega
    · obtain rfl : k = ws.length := by omega
      exact absurd (HNO.out hj.out) id
set_option maxRecDepth 100000 in
set_option maxHeartbeats 4000000 in
theorem spec_yes (a : Option Addr) (ws : List Int) (c : Nat) (q : Int) (p : Option Addr) (zs : List Int) (d : Nat) (w : World) (hr : ints.Reads .i64 w a ws) (hq : ints.Reads .i64 w p zs) (hn : ws.length ≤ 1048576) (hm : zs.length ≤ 1048576) (hk : voteB ws q = true) (ho : orderB ws.length zs = true) :
    Calls Try.prog 22 #[.agg #[.slice a ws.length c, .int .i64 q], .slice p zs.length d] w (RetNB (pivot ws q zs) true w) := by
  have HV := Lib.hid (fun (wa : World) (hb : Below w.heap.size w wa) => vote.spec_vote a ws c q wa (hr.below hb) hn true (Lib.hid hk))
  have HF := Lib.hid (fun k (h : k < zs.length) => ok_fit ho k h)
  have HA := Lib.hid (fun j (hj : j < ws.length) => vote_at hk j hj)
  have HBD := Lib.hid (fun k (h : k ≤ zs.length) => show 0 ≤ sumP ws zs k ∧ sumP ws zs k ≤ (20 * k : Nat) from psum_bd (fun j hj => vote_at hk j hj) ho k h)
  have HS := Lib.hid (fun k => show sumP ws zs (k + 1) = sumP ws zs k + ws.getD (zs.getD k 0).toNat 0 from rfl)
  have hql : q ≤ sumP ws zs zs.length := Int.le_trans ((vote_iff _ _).1 hk).2.2.2 (order_sum (fun j hj => (vote_at hk j hj).1) ho)
  have HQL := Lib.hid hql
  have hzl : zs.length = ws.length := perm_len ho
  have h18 := ((vote_iff _ _).1 hk).1
  have HPV := Lib.hid (fun k (h1 : k < zs.length) (h2 : ∀ j, j < k → sumP ws zs (j + 1) < q) (h3 : q ≤ sumP ws zs (k + 1)) => pivot_at h1 h2 h3)
  have HQ := Lib.hid hq
  have HR := Lib.hid hr
  have g1 : ((zs.length : Int) != (ws.length : Int)) = false := by rw [bne_eq_false_iff_eq]; omega
  have HH := Lib.hid (fun (i : Nat) (hi : i < ws.length) (wa : World) (hb : Below w.heap.size w wa) => spec_has p zs d (i : Int) wa (hq.below hb) hm true (Lib.hid (order_has ho i hi)))
  have HZL := Lib.hid hzl
  clear hr hq hk ho hql hzl
  go_enter Try.func22, Try.ntmps22
  obtain ⟨w0, hw0⟩ : ∃ w0 : World, w0 = w.alloc (.cells #[.slice a ws.length c, .int .i64 q] 34) := ⟨_, rfl⟩
  have x0 : w0.cell? ⟨w.heap.size, 0, none⟩ = some (.slice a ws.length c) := by rw [hw0]; exact cell_new _ _ _ rfl rfl
  have x1 : w0.cell? ⟨w.heap.size, 1, none⟩ = some (.int .i64 q) := by rw [hw0]; exact cell_new _ _ _ rfl rfl
  have HB0 := Lib.hid (show Below w.heap.size w w0 by rw [hw0]; exact below_alloc w (.cells #[.slice a ws.length c, .int .i64 q] 34))
  have s0 : w.heap.size + 1 ≤ w0.heap.size := by rw [hw0]; simp
  go_wp2_with fail
  rw [← hw0]
  clear hw0
  refine (HV.out _ HB0.out).mono ?_
  rintro e w1 ⟨rfl, hb1⟩
  have y0 := cell_below hb1 x0 (by omega)
  have y1 := cell_below hb1 x1 (by omega)
  have HB1 := Lib.hid (HB0.out.trans (hb1.mono (by omega)))
  have s1 := hb1.size
  clear hb1 x0 x1 HV
  go_wp2_with fail
  have hzz : zs.length = zs.length := rfl
  go_loop [6] (fun i => ∃ k : Nat, k ≤ ws.length ∧ i = .int .i64 k) (fun i => ws.length - (intOf i).toNat)
  case atStart => exact ⟨0, Nat.zero_le _, rfl⟩
  case round =>
    obtain ⟨k, hk, rfl⟩ := hrel
    by_cases hlt : k < ws.length
    · have HC := Lib.hid (HH.out k hlt w1 HB1.out)
      go_wp2_with fail
      refine HC.out.mono ?_
      rintro e w' ⟨rfl, rfl⟩
      go_wp2_with fail
      go_round
      case rel => exact ⟨k + 1, by omega, by go_num⟩
      case measure => simp [intOf]; omega
    · obtain rfl : k = ws.length := by omega
      have hl1 : ws.length ≤ zs.length := by rw [HZL.out]; exact Nat.le_refl _
      have hl2 : zs.length ≤ ws.length := by rw [HZL.out]; exact Nat.le_refl _
      clear HH
      obtain ⟨b, off, rfl, hbl, hc⟩ := (HQ.out.below HB1.out).at (k := 0) (by omega)
      have hf := HF.out 0 (by omega)
      have HSk := HS.out 0
      obtain ⟨z, hz⟩ : ∃ z : Nat, zs.getD 0 0 = z := ⟨(zs.getD 0 0).toNat, by omega⟩
      rw [hz] at hc HSk hf
      have hzl2 : z < ws.length := by omega
      obtain ⟨b2, off2, rfl, hbl2, hc2⟩ := (HR.out.below HB1.out).at hzl2
      have ha := HA.out z hzl2
      simp only [Int.toNat_natCast] at HSk
      have HSH := Lib.hid HSk
      clear HSk hbl hbl2
      generalize ws.getD z 0 = x at *
      have i1 : (0 : Int) ≤ (z : Int) := by omega
      have i2 : (z : Int) < (ws.length : Int) := by omega
      have i3 : (0 : Int) ≤ ((0 : Nat) : Int) := by omega
      have i4 : ((0 : Nat) : Int) < (zs.length : Int) := by omega
      have i5 : (0 : Int) < (zs.length : Int) := by omega
      have i6 : 0 < zs.length := by omega
      rw [Nat.add_zero] at hc
      clear i3 i4
      have hS0 : sumP ws zs 0 = 0 := rfl
      rw [hS0] at HSH
      clear hS0 hz
      go_wp2_with fail
      go_quiet (fail)
      go_wp2_with fail
      go_loopw [7, 8] (fun s i wr => ∃ k : Nat, k < zs.length ∧ i = .int .i64 k ∧ s = .int .i64 (sumP ws zs (k + 1)) ∧ Hid (∀ j, j < k → sumP ws zs (j + 1) < q) ∧ ∃ m, wr = w1.drewN m) (fun _ i _ => ws.length - (intOf i).toNat)
      case atStart => exact ⟨0, by omega, rfl, by rw [HSH.out]; simp, Lib.hid (fun j hj => by omega), _, rfl⟩
      case round =>
        obtain ⟨k, hk, rfl, rfl, hj, m, rfl⟩ := hrel
        have hbd := HBD.out (k + 1) (by omega)
        clear hc hc2 hf ha HSH i1 i2 i5 i6
        by_cases hlt : sumP ws zs (k + 1) < q
        · have hk1 : k + 1 < zs.length := by
            by_cases e : k + 1 = zs.length
            · have := HQL.out
              rw [← e] at this
              omega
            · omega
          have HJ : Hid (∀ j, j < k + 1 → sumP ws zs (j + 1) < q) := Lib.hid (fun j h => by
            by_cases e : j = k
            · rw [e]; exact hlt
            · exact hj.out j (by omega))
          have hbd2 := HBD.out (k + 1 + 1) (by omega)
          clear hj
          have hbq := ints.below_drewN (Below.refl w1.heap.size w1) m
          have y0m := cell_below hbq y0 (by omega)
          have y1m := cell_below hbq y1 (by omega)
          have HBm := Lib.hid (HB1.out.trans (hbq.mono (by omega)))
          have HDD := Lib.hid (show ∀ n, ∃ q, (w1.drewN m).drewN n = w1.drewN q from fun n => ⟨_, World.drewN_drewN _ _ _⟩)
          clear hbq
          generalize w1.drewN m = wm at *
          obtain ⟨b', off', e', hbl, hc⟩ := (HQ.out.below HBm.out).at (k := (k + 1)) (by omega)
          cases e'
          have hf := HF.out (k + 1) (by omega)
          have HSk := HS.out (k + 1)
          obtain ⟨z, hz⟩ : ∃ z : Nat, zs.getD (k + 1) 0 = z := ⟨(zs.getD (k + 1) 0).toNat, by omega⟩
          rw [hz] at hc HSk hf
          have hzl2 : z < ws.length := by omega
          obtain ⟨b2', off2', e2', hbl2, hc2⟩ := (HR.out.below HBm.out).at hzl2
          cases e2'
          have ha := HA.out z hzl2
          simp only [Int.toNat_natCast] at HSk
          have HSH := Lib.hid HSk
          clear HSk hbl hbl2
          generalize ws.getD z 0 = x at *
          have i1 : (0 : Int) ≤ (z : Int) := by omega
          have i2 : (z : Int) < (ws.length : Int) := by omega
          have i3 : (0 : Int) ≤ (((k + 1) : Nat) : Int) := by omega
          have i4 : (((k + 1) : Nat) : Int) < (zs.length : Int) := by omega
          clear hz y0 y1
          rw [HSH.out] at hbd2
          generalize sumP ws zs (k + 1) = S at *
          have e1 : IntKind.i64.wrap (S + x) = S + x := IntWalk.i64_in _ (by omega)
          go_wp2_with fail
          go_quiet (fail)
          clear e1
          go_wp2_with fail
          go_roundw
          case rel => exact ⟨k + 1, by omega, by go_num, by rw [HSH.out], HJ, HDD.out _⟩
          case measure => simp [intOf]; omega
        · have HE := Lib.hid (HPV.out k hk hj.out (by omega))
          have hbq := ints.below_drewN (Below.refl w1.heap.size w1) m
          have y0m := cell_below hbq y0 (by omega)
          have y1m := cell_below hbq y1 (by omega)
          have HBm := Lib.hid (HB1.out.trans (hbq.mono (by omega)))
          clear hbq hj
          generalize w1.drewN m = wm at *
          obtain ⟨b', off', e', hbl, hc⟩ := (HQ.out.below HBm.out).at (k := k) hk
          cases e'
          clear hbl y0 y1
          generalize sumP ws zs (k + 1) = S at *
          generalize zs.getD k 0 = z2 at *
          have i3 : (0 : Int) ≤ (k : Int) := by omega
          have i4 : (k : Int) < (zs.length : Int) := by omega
          go_wp2_with fail
          go_ret2
          exact ⟨by rw [HE.out]; rfl, HBm.out⟩
def PJ (a : Option Addr) (ws : List Int) (c : Nat) (q : Int) (p : Option Addr) (zs : List Int) (d : Nat) (w : World) : Act → World → Prop := fun a' w' => ∃ (k : Nat) (u8 u9 u10 u11 u12 u13 u14 u15 u16 u17 u18 u19 u20 u21 u22 u23 u24 u25 u26 u27 u28 u29 u30 u31 u32 u33 u34 u35 u36 u37 u38 : Value), a' = { tmps := #[.agg #[.slice a ws.length c, .int .i64 q], .slice p zs.length d, .pointer (some ⟨w.heap.size, 0, none⟩), undef, .int .i64 0, .bool false, .int .i64 (k : Nat), .int .i64 (sumP ws zs k), u8, u9, u10, u11, u12, u13, u14, u15, u16, u17, u18, u19, u20, u21, u22, u23, u24, u25, u26, u27, u28, u29, u30, u31, u32, u33, u34, u35, u36, u37, u38], defers := [] } ∧ k < zs.length ∧ w'.cell? ⟨w.heap.size, 0, none⟩ = some (.slice a ws.length c) ∧ w'.cell? ⟨w.heap.size, 1, none⟩ = some (.int .i64 q) ∧ Below w.heap.size w w' ∧ Hid (∀ j, j < k → sumP ws zs (j + 1) < q)
set_option maxRecDepth 100000 in
set_option maxHeartbeats 4000000 in
theorem impl_novote (a : Option Addr) (ws : List Int) (c : Nat) (q : Int) (p : Option Addr) (zs : List Int) (d : Nat) (w : World) (hr : ints.Reads .i64 w a ws) (hq : ints.Reads .i64 w p zs) (hn : ws.length ≤ 1048576) (hm : zs.length ≤ 1048576) (hk : voteB ws q = false) :
    Calls Try.prog 24 #[.agg #[.slice a ws.length c, .int .i64 q], .slice p zs.length d] w (RetNB 0 false w) := by
  have HV := Lib.hid (fun (wa : World) (hb : Below w.heap.size w wa) => vote.impl_vote a ws c q wa (hr.below hb) hn false (Lib.hid hk))
  clear hr hq hk
  go_enter Try.func24, Try.ntmps24
  obtain ⟨w0, hw0⟩ : ∃ w0 : World, w0 = w.alloc (.cells #[.slice a ws.length c, .int .i64 q] 34) := ⟨_, rfl⟩
  have x0 : w0.cell? ⟨w.heap.size, 0, none⟩ = some (.slice a ws.length c) := by rw [hw0]; exact cell_new _ _ _ rfl rfl
  have x1 : w0.cell? ⟨w.heap.size, 1, none⟩ = some (.int .i64 q) := by rw [hw0]; exact cell_new _ _ _ rfl rfl
  have HB0 := Lib.hid (show Below w.heap.size w w0 by rw [hw0]; exact below_alloc w (.cells #[.slice a ws.length c, .int .i64 q] 34))
  have s0 : w.heap.size + 1 ≤ w0.heap.size := by rw [hw0]; simp
  go_wp2_with fail
  go_step3
  go_wp2_with fail
  rw [← hw0]
  clear hw0
  refine (HV.out _ HB0.out).mono ?_
  rintro e w1 ⟨rfl, hb1⟩
  have y0 := cell_below hb1 x0 (by omega)
  have y1 := cell_below hb1 x1 (by omega)
  have HB1 := Lib.hid (HB0.out.trans (hb1.mono (by omega)))
  have s1 := hb1.size
  clear hb1 x0 x1 HV
  go_wp2_with fail
  go_ret2
  exact ⟨rfl, HB1.out⟩
set_option maxRecDepth 100000 in
set_option maxHeartbeats 4000000 in
theorem impl_noorder (a : Option Addr) (ws : List Int) (c : Nat) (q : Int) (p : Option Addr) (zs : List Int) (d : Nat) (w : World) (hr : ints.Reads .i64 w a ws) (hq : ints.Reads .i64 w p zs) (hn : ws.length ≤ 1048576) (hm : zs.length ≤ 1048576) (hk : voteB ws q = true) (ho : orderB ws.length zs = false) :
    Calls Try.prog 24 #[.agg #[.slice a ws.length c, .int .i64 q], .slice p zs.length d] w (RetNB 0 false w) := by
  have HV := Lib.hid (fun (wa : World) (hb : Below w.heap.size w wa) => vote.impl_vote a ws c q wa (hr.below hb) hn true (Lib.hid hk))
  have h18 := ((vote_iff _ _).1 hk).1
  have HO := Lib.hid (fun (wa : World) (hb : Below w.heap.size w wa) => order8.order_any ws.length p zs d wa (hq.below hb) h18.2 false (Lib.hid ho))
  clear hr hq hk ho
  go_enter Try.func24, Try.ntmps24
  obtain ⟨w0, hw0⟩ : ∃ w0 : World, w0 = w.alloc (.cells #[.slice a ws.length c, .int .i64 q] 34) := ⟨_, rfl⟩
  have x0 : w0.cell? ⟨w.heap.size, 0, none⟩ = some (.slice a ws.length c) := by rw [hw0]; exact cell_new _ _ _ rfl rfl
  have x1 : w0.cell? ⟨w.heap.size, 1, none⟩ = some (.int .i64 q) := by rw [hw0]; exact cell_new _ _ _ rfl rfl
  have HB0 := Lib.hid (show Below w.heap.size w w0 by rw [hw0]; exact below_alloc w (.cells #[.slice a ws.length c, .int .i64 q] 34))
  have s0 : w.heap.size + 1 ≤ w0.heap.size := by rw [hw0]; simp
  go_wp2_with fail
  go_step3
  go_wp2_with fail
  rw [← hw0]
  clear hw0
  refine (HV.out _ HB0.out).mono ?_
  rintro e w1 ⟨rfl, hb1⟩
  have y0 := cell_below hb1 x0 (by omega)
  have y1 := cell_below hb1 x1 (by omega)
  have HB1 := Lib.hid (HB0.out.trans (hb1.mono (by omega)))
  have s1 := hb1.size
  clear hb1 x0 x1 HV
  go_wp2_with fail
  refine (HO.out _ HB1.out).mono ?_
  rintro e w2 ⟨rfl, hb2⟩
  have HB2 := Lib.hid (HB1.out.trans (hb2.mono (by omega)))
  clear hb2
  go_wp2_with fail
  go_ret2
  exact ⟨rfl, HB2.out⟩
set_option maxRecDepth 100000 in
set_option maxHeartbeats 4000000 in
theorem impl_yes (a : Option Addr) (ws : List Int) (c : Nat) (q : Int) (p : Option Addr) (zs : List Int) (d : Nat) (w : World) (hr : ints.Reads .i64 w a ws) (hq : ints.Reads .i64 w p zs) (hn : ws.length ≤ 1048576) (hm : zs.length ≤ 1048576) (hk : voteB ws q = true) (ho : orderB ws.length zs = true) :
    Calls Try.prog 24 #[.agg #[.slice a ws.length c, .int .i64 q], .slice p zs.length d] w (RetNB (pivot ws q zs) true w) := by
  have HV := Lib.hid (fun (wa : World) (hb : Below w.heap.size w wa) => vote.impl_vote a ws c q wa (hr.below hb) hn true (Lib.hid hk))
  have HF := Lib.hid (fun k (h : k < zs.length) => ok_fit ho k h)
  have HA := Lib.hid (fun j (hj : j < ws.length) => vote_at hk j hj)
  have HBD := Lib.hid (fun k (h : k ≤ zs.length) => show 0 ≤ sumP ws zs k ∧ sumP ws zs k ≤ (20 * k : Nat) from psum_bd (fun j hj => vote_at hk j hj) ho k h)
  have HS := Lib.hid (fun k => show sumP ws zs (k + 1) = sumP ws zs k + ws.getD (zs.getD k 0).toNat 0 from rfl)
  have hql : q ≤ sumP ws zs zs.length := Int.le_trans ((vote_iff _ _).1 hk).2.2.2 (order_sum (fun j hj => (vote_at hk j hj).1) ho)
  have HQL := Lib.hid hql
  have hzl : zs.length = ws.length := perm_len ho
  have h18 := ((vote_iff _ _).1 hk).1
  have HPV := Lib.hid (fun k (h1 : k < zs.length) (h2 : ∀ j, j < k → sumP ws zs (j + 1) < q) (h3 : q ≤ sumP ws zs (k + 1)) => pivot_at h1 h2 h3)
  have HQ := Lib.hid hq
  have HR := Lib.hid hr
  have HO := Lib.hid (fun (wa : World) (hb : Below w.heap.size w wa) => order8.order_any ws.length p zs d wa (hq.below hb) h18.2 true (Lib.hid ho))
  have hl1 : ws.length ≤ zs.length := by omega
  have hl2 : zs.length ≤ ws.length := by omega
  clear hr hq hk ho hql hzl
  go_enter Try.func24, Try.ntmps24
  obtain ⟨w0, hw0⟩ : ∃ w0 : World, w0 = w.alloc (.cells #[.slice a ws.length c, .int .i64 q] 34) := ⟨_, rfl⟩
  have x0 : w0.cell? ⟨w.heap.size, 0, none⟩ = some (.slice a ws.length c) := by rw [hw0]; exact cell_new _ _ _ rfl rfl
  have x1 : w0.cell? ⟨w.heap.size, 1, none⟩ = some (.int .i64 q) := by rw [hw0]; exact cell_new _ _ _ rfl rfl
  have HB0 := Lib.hid (show Below w.heap.size w w0 by rw [hw0]; exact below_alloc w (.cells #[.slice a ws.length c, .int .i64 q] 34))
  have s0 : w.heap.size + 1 ≤ w0.heap.size := by rw [hw0]; simp
  go_wp2_with fail
  refine wp_scope_jumps 0 (PJ a ws c q p zs d w) (fun a' _ => ws.length - (intOf (a'.tmps.getD 6 undef)).toNat) rfl ?_ ?_
  · go_wp2_with fail
    rw [← hw0]
    clear hw0
    refine (HV.out _ HB0.out).mono ?_
    rintro e w1 ⟨rfl, hb1⟩
    have y0 := cell_below hb1 x0 (by omega)
    have y1 := cell_below hb1 x1 (by omega)
    have HB1 := Lib.hid (HB0.out.trans (hb1.mono (by omega)))
    have s1 := hb1.size
    clear hb1 x0 x1 HV
    go_wp2_with fail
    refine (HO.out _ HB1.out).mono ?_
    rintro e w2 ⟨rfl, hb2⟩
    have z0 := cell_below hb2 y0 (by omega)
    have z1 := cell_below hb2 y1 (by omega)
    have HB2 := Lib.hid (HB1.out.trans (hb2.mono (by omega)))
    clear hb2 y0 y1
    go_wp2_with fail
    go_step3
    obtain ⟨b, off, rfl, hbl, hc⟩ := (HQ.out.below HB2.out).at (k := 0) (by omega)
    have hf := HF.out 0 (by omega)
    have HSk := HS.out 0
    obtain ⟨z, hz⟩ : ∃ z : Nat, zs.getD 0 0 = z := ⟨(zs.getD 0 0).toNat, by omega⟩
    rw [hz] at hc HSk hf
    have hzl2 : z < ws.length := by omega
    obtain ⟨b2, off2, rfl, hbl2, hc2⟩ := (HR.out.below HB2.out).at hzl2
    have ha := HA.out z hzl2
    simp only [Int.toNat_natCast] at HSk
    have HSH := Lib.hid HSk
    clear HSk hbl hbl2
    generalize ws.getD z 0 = x at *
    have i1 : (0 : Int) ≤ (z : Int) := by omega
    have i2 : (z : Int) < (ws.length : Int) := by omega
    have i3 : (0 : Int) ≤ ((0 : Nat) : Int) := by omega
    have i4 : ((0 : Nat) : Int) < (zs.length : Int) := by omega
    have i5 : (0 : Int) < (zs.length : Int) := by omega
    have i6 : 0 < zs.length := by omega
    rw [Nat.add_zero] at hc
    clear i3 i4
    have hbd := HBD.out 1 (by omega)
    have hS0 : sumP ws zs 0 = 0 := rfl
    rw [hS0, Int.zero_add] at HSH
    have HZ := Lib.hid hz
    clear hS0 hz HO
    rw [Nat.zero_add] at HSH
    rw [HSH.out] at hbd
    by_cases hlt : x < q
    · have hk1 : 1 < zs.length := by
        by_cases e : 1 = zs.length
        · have := HQL.out
          rw [← e, HSH.out] at this
          omega
        · omega
      have HJ : Hid (∀ j, j < 1 → sumP ws zs (j + 1) < q) := Lib.hid (fun j h => by
        obtain rfl : j = 0 := by omega
        rw [HSH.out]; exact hlt)
      go_wp2_with fail
      go_quiet (fail)
      go_wp2_with fail
      go_step3
      refine ⟨rfl, ?_⟩
      exact ⟨1, _, _, _, _, _, _, _, _, _, _, _, _, _, _, _, _, _, _, _, _, _, _, _, _, _, _, _, _, _, _, _, by rw [HSH.out]; rfl, hk1, z0, z1, ints.below_drewN HB2.out _, HJ⟩
    · have HE := Lib.hid (HPV.out 0 (by omega) (fun j h => by omega) (by rw [HSH.out]; omega))
      rw [HZ.out] at HE
      go_wp2_with fail
      go_quiet (fail)
      go_wp2_with fail
      simp only [Exit.jump]
      go_ret2
      exact ⟨by rw [HE.out]; rfl, ints.below_drewN HB2.out _⟩
  · rintro a' wr hJ
    obtain ⟨k, u8, u9, u10, u11, u12, u13, u14, u15, u16, u17, u18, u19, u20, u21, u22, u23, u24, u25, u26, u27, u28, u29, u30, u31, u32, u33, u34, u35, u36, u37, u38, rfl, hk, z0, z1, hb, hj⟩ := hJ
    have HBr := Lib.hid hb
    have hbd := HBD.out (k + 1) (by omega)
    have hbd0 := HBD.out k (by omega)
    have HPK := Lib.hid (fun h => HPV.out k hk hj.out h)
    clear hb HO HB0
    obtain ⟨b, off, rfl, hbl, hc⟩ := (HQ.out.below HBr.out).at (k := k) (by omega)
    have hf := HF.out k (by omega)
    have HSk := HS.out k
    obtain ⟨z, hz⟩ : ∃ z : Nat, zs.getD k 0 = z := ⟨(zs.getD k 0).toNat, by omega⟩
    rw [hz] at hc HSk hf
    have hzl2 : z < ws.length := by omega
    obtain ⟨b2, off2, rfl, hbl2, hc2⟩ := (HR.out.below HBr.out).at hzl2
    have ha := HA.out z hzl2
    simp only [Int.toNat_natCast] at HSk
    have HSH := Lib.hid HSk
    clear HSk hbl hbl2
    generalize ws.getD z 0 = x at *
    have i1 : (0 : Int) ≤ (z : Int) := by omega
    have i2 : (z : Int) < (ws.length : Int) := by omega
    have i3 : (0 : Int) ≤ ((k : Nat) : Int) := by omega
    have i4 : ((k : Nat) : Int) < (zs.length : Int) := by omega
    have HZ := Lib.hid hz
    rw [HSH.out] at hbd
    clear hz
    by_cases hlt : sumP ws zs (k + 1) < q
    · have hk1 : k + 1 < zs.length := by
        by_cases e : k + 1 = zs.length
        · have := HQL.out
          rw [← e] at this
          omega
        · omega
      have HJ : Hid (∀ j, j < k + 1 → sumP ws zs (j + 1) < q) := Lib.hid (fun j h => by
        by_cases e : j = k
        · rw [e]; exact hlt
        · exact hj.out j (by omega))
      rw [HSH.out] at hlt
      clear hj HPK
      generalize hS : sumP ws zs k = S at *
      have e1 : IntKind.i64.wrap (S + x) = S + x := IntWalk.i64_in _ (by omega)
      go_wp2_with fail
      go_quiet (fail)
      clear e1
      go_wp2_with fail
      go_step3
      refine ⟨rfl, ⟨k + 1, _, _, _, _, _, _, _, _, _, _, _, _, _, _, _, _, _, _, _, _, _, _, _, _, _, _, _, _, _, _, _, by rw [HSH.out]; rfl, hk1, z0, z1, ints.below_drewN HBr.out _, HJ⟩, ?_⟩
      simp [intOf]; omega
    · have HE := Lib.hid (HPK.out (by omega))
      rw [HSH.out] at hlt
      rw [HZ.out] at HE
      clear hj HPK
      generalize sumP ws zs k = S at *
      have e1 : IntKind.i64.wrap (S + x) = S + x := IntWalk.i64_in _ (by omega)
      go_wp2_with fail
      go_quiet (fail)
      clear e1
      go_wp2_with fail
      simp only [Exit.jump]
      go_ret2
      exact ⟨by rw [HE.out]; rfl, ints.below_drewN HBr.out _⟩
end Go.Proofs.Ytobdapalllaceaa.pivotw
