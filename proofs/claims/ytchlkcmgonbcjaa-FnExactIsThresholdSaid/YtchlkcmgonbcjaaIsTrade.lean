/- The walks of IsTrade: the model's and the program's. -/
import Derived.Test.YtchlkcmgonbcjaaTrade
import Derived.Test.YtchlkcmgonbcjaaRets
import Derived.BigQuiet
import Derived.Laws.StructEq
import Derived.Laws.Tables
namespace Go.Proofs.Ytchlkcmgonbcjaa.istrade
open Go.RowKit own pp nums range tab bitw dig pairw trade
set_option linter.unusedVariables false
set_option linter.unusedSimpArgs false

theorem arr_eq (x0 x1 x2 x3 y0 y1 y2 y3 : Int) (w : World) : (Op.equalIn 10000 37 (.agg #[.int .i64 x0, .int .i64 x1, .int .i64 x2, .int .i64 x3]) (.agg #[.int .i64 y0, .int .i64 y1, .int .i64 y2, .int .i64 y3])).run Try.prog w = .ok (decide ((x0 = y0 ∧ x1 = y1) ∧ (x2 = y2 ∧ x3 = y3))) w := by
  have u3 := Try.underlying3
  have a3 := Try.isAgg3
  have z3 := Try.sizeOf3
  rw [show (10000 : Nat) = 9999 + 1 from rfl, Op.equalIn]
  simp only [Sem.run_bind, run_underlying Try.underlying37, Result.andThen_ok]
  simp only [Std.Legacy.Range.forIn_eq_forIn_range', Std.Legacy.Range.size, Nat.sub_zero, Nat.add_sub_cancel, Nat.div_one, List.range'_succ, List.range'_zero, List.forIn_cons, List.forIn_nil]
  go_simp
  by_cases h0 : x0 = y0 <;> by_cases h1 : x1 = y1 <;> by_cases h2 : x2 = y2 <;> by_cases h3 : x3 = y3 <;> simp [h0, h1, h2, h3]
theorem eq4 (a b c d : Nat) : eqBits 4 a b c d = decide ((ds a b 0 = ds c d 0 ∧ ds a b 1 = ds c d 1) ∧ (ds a b 2 = ds c d 2 ∧ ds a b 3 = ds c d 3)) := by
  rw [Bool.eq_iff_iff, decide_eq_true_eq]
  constructor
  · intro h
    exact ⟨⟨eq_at h 0 (by omega), eq_at h 1 (by omega)⟩, eq_at h 2 (by omega), eq_at h 3 (by omega)⟩
  · rintro ⟨⟨h0, h1⟩, h2, h3⟩
    refine eq_all fun i hi => ?_
    have h4 : i = 0 ∨ i = 1 ∨ i = 2 ∨ i = 3 := by omega
    rcases h4 with rfl | rfl | rfl | rfl <;> assumption
theorem ones_iff {z0 z1 z2 z3 : Int} (h0 : z0 = 0 ∨ z0 = 1) (h1 : z1 = 0 ∨ z1 = 1) (h2 : z2 = 0 ∨ z2 = 1) (h3 : z3 = 0 ∨ z3 = 1) : decide ((z0 = 1 ∧ z1 = 1) ∧ (z2 = 0 ∧ z3 = 0)) = (decide (z0 + z1 = 2) && decide (z2 + z3 = 0)) := by
  rw [Bool.eq_iff_iff, Bool.and_eq_true, decide_eq_true_eq, decide_eq_true_eq, decide_eq_true_eq]
  omega
set_option maxRecDepth 100000 in
set_option maxHeartbeats 4000000 in
theorem spec_no (n : Int) (a : Option Addr) (zs : List Int) (c : Nat) (p : Option Addr) (ts : List Int) (q : Nat) (w : World) (hr : ints.Reads .i64 w a zs) (hq : ints.Reads .i64 w p ts) (hm : ts.length ≤ 1048576) (hk : tab.tabB n zs = false) :
    Calls Try.prog 19 #[.int .i64 n, .slice a zs.length c, .slice p ts.length q] w (RetBB false false w) := by
  have HT := Lib.hid (fun (wa : World) (hb : Below w.heap.size w wa) => tab.spec_tab n a zs c wa (hr.below hb) false (Lib.hid hk))
  clear hr hq hk
  go_enter Try.func19, Try.ntmps19
  go_wp2_with fail
  refine (HT.out _ (Below.refl _ _)).mono ?_
  rintro e w' ⟨rfl, m, rfl⟩
  go_wp2_with fail
  go_ret2
  exact ⟨rfl, ints.below_drewN (Below.refl _ _) _⟩
set_option maxRecDepth 100000 in
set_option maxHeartbeats 4000000 in
theorem spec_yes (m0 : Nat) (a : Option Addr) (zs : List Int) (c : Nat) (p : Option Addr) (ts : List Int) (q : Nat) (w : World) (hr : ints.Reads .i64 w a zs) (hq : ints.Reads .i64 w p ts) (hm : ts.length ≤ 1048576) (hk : tab.tabB m0 zs = true) :
    Calls Try.prog 19 #[.int .i64 m0, .slice a zs.length c, .slice p ts.length q] w (RetBB (tradeB m0 zs ts) true w) := by
  have HT := Lib.hid (fun (wa : World) (hb : Below w.heap.size w wa) => tab.spec_tab m0 a zs c wa (hr.below hb) true (Lib.hid hk))
  have HC := Lib.hid (fun (k : Nat) => spec_trade m0 a zs c p ts q (w.drewN k) hr hq hm hk (tradeB m0 zs ts) (Lib.hid rfl))
  clear hr hq hk
  generalize tradeB m0 zs ts = ok at *
  go_enter Try.func19, Try.ntmps19
  go_wp2_with fail
  refine (HT.out _ (Below.refl _ _)).mono ?_
  rintro e w' ⟨rfl, m, rfl⟩
  go_wp2_with fail
  refine (HC.out m).mono ?_
  rintro e w' ⟨rfl, m2, rfl⟩
  go_wp2_with fail
  go_ret2
  exact ⟨rfl, ints.below_drewN (Below.refl _ _) _⟩
set_option maxRecDepth 100000 in
set_option maxHeartbeats 4000000 in
theorem impl_no (n : Int) (a : Option Addr) (zs : List Int) (c : Nat) (p : Option Addr) (ts : List Int) (q : Nat) (w : World) (hr : ints.Reads .i64 w a zs) (hq : ints.Reads .i64 w p ts) (hm : ts.length ≤ 1048576) (hk : tab.tabB n zs = false) :
    Calls Try.prog 20 #[.int .i64 n, .slice a zs.length c, .slice p ts.length q] w (RetBB false false w) := by
  have HT := Lib.hid (fun (wa : World) (hb : Below w.heap.size w wa) => tab.impl_tab n a zs c wa (hr.below hb) false (Lib.hid hk))
  clear hr hq hk
  go_enter Try.func20, Try.ntmps20
  go_wp2_with fail
  refine (HT.out _ (Below.refl _ _)).mono ?_
  rintro e w' ⟨rfl, m, rfl⟩
  go_wp2_with fail
  go_ret2
  exact ⟨rfl, ints.below_drewN (Below.refl _ _) _⟩
set_option maxRecDepth 100000 in
set_option maxHeartbeats 4000000 in
theorem impl_len (m0 : Nat) (a : Option Addr) (zs : List Int) (c : Nat) (p : Option Addr) (ts : List Int) (q : Nat) (w : World) (hr : ints.Reads .i64 w a zs) (hq : ints.Reads .i64 w p ts) (hm : ts.length ≤ 1048576) (hk : tab.tabB m0 zs = true) (hl : ts.length ≠ 4) :
    Calls Try.prog 20 #[.int .i64 m0, .slice a zs.length c, .slice p ts.length q] w (RetBB false true w) := by
  have HT := Lib.hid (fun (wa : World) (hb : Below w.heap.size w wa) => tab.impl_tab m0 a zs c wa (hr.below hb) true (Lib.hid hk))
  have g1 : ((ts.length : Int) != 4) = true := by rw [bne_iff_ne]; omega
  clear hr hq hk hl
  go_enter Try.func20, Try.ntmps20
  go_wp2_with fail
  refine (HT.out _ (Below.refl _ _)).mono ?_
  rintro e w' ⟨rfl, m, rfl⟩
  go_wp2_with fail
  go_ret2
  exact ⟨rfl, ints.below_drewN (Below.refl _ _) _⟩
set_option maxRecDepth 100000 in
set_option maxHeartbeats 4000000 in
theorem impl_out (m0 : Nat) (a : Option Addr) (zs : List Int) (c : Nat) (p : Option Addr) (ts : List Int) (q : Nat) (w : World) (hr : ints.Reads .i64 w a zs) (hq : ints.Reads .i64 w p ts) (hm : ts.length ≤ 1048576) (hk : tab.tabB m0 zs = true) (hl : ts.length = 4) (hi : numsR 0 ((zs.length : Int) - 1) ts = false) :
    Calls Try.prog 20 #[.int .i64 m0, .slice a zs.length c, .slice p ts.length q] w (RetBB false true w) := by
  have HT := Lib.hid (fun (wa : World) (hb : Below w.heap.size w wa) => tab.impl_tab m0 a zs c wa (hr.below hb) true (Lib.hid hk))
  have HIN : Hid (numsR 0 ((zs.length : Int) - 1) ts = false) := Lib.hid hi
  have g1 : ((ts.length : Int) != 4) = false := by rw [bne_eq_false_iff_eq]; omega
  have HQ := Lib.hid hq
  have HR := Lib.hid hr
  obtain ⟨m1, he, h4, hpw, h16, hrg⟩ := tab_nat hk
  obtain rfl : m0 = m1 := by omega
  have HA := Lib.hid (tab_at hk)
  have HL := Lib.hid hpw
  have hz1 := (mk.pow4 h4).1
  have hz : 1 ≤ zs.length := by omega
  clear hr hq hk hpw hrg he hz1
  have HL4 := Lib.hid hl
  have hm8 : ts.length ≤ 1048576 := hm
  clear hi hl
  go_enter Try.func20, Try.ntmps20
  go_wp2_with fail
  refine (HT.out _ (Below.refl _ _)).mono ?_
  rintro e w' ⟨rfl, m, rfl⟩
  go_wp2_with fail
  refine (impl_range p ts q ((zs.length : Int) - 1) _ (HQ.out.below (ints.below_drewN (Below.refl _ _) m)) (by omega) false HIN).mono ?_
  rintro e w1 ⟨rfl, hb1⟩
  have HB1 := Lib.hid ((ints.below_drewN (Below.refl w.heap.size w) m).trans (hb1.mono (Nat.le_refl _)))
  clear hb1
  go_wp2_with fail
  go_ret2
  exact ⟨rfl, HB1.out⟩
set_option maxRecDepth 100000 in
set_option maxHeartbeats 4000000 in
theorem impl_yes (m0 : Nat) (a : Option Addr) (zs : List Int) (c : Nat) (p : Option Addr) (ts : List Int) (q : Nat) (w : World) (hr : ints.Reads .i64 w a zs) (hq : ints.Reads .i64 w p ts) (hm : ts.length ≤ 1048576) (hk : tab.tabB m0 zs = true) (hl : ts.length = 4) (hi : numsR 0 ((zs.length : Int) - 1) ts = true) :
    Calls Try.prog 20 #[.int .i64 m0, .slice a zs.length c, .slice p ts.length q] w (RetBB (tradeB m0 zs ts) true w) := by
  have HT := Lib.hid (fun (wa : World) (hb : Below w.heap.size w wa) => tab.impl_tab m0 a zs c wa (hr.below hb) true (Lib.hid hk))
  have HIN : Hid (numsR 0 ((zs.length : Int) - 1) ts = true) := Lib.hid hi
  have g1 : ((ts.length : Int) != 4) = false := by rw [bne_eq_false_iff_eq]; omega
  have HQ := Lib.hid hq
  have HR := Lib.hid hr
  obtain ⟨m1, he, h4, hpw, h16, hrg⟩ := tab_nat hk
  obtain rfl : m0 = m1 := by omega
  have HA := Lib.hid (tab_at hk)
  have HL := Lib.hid hpw
  have hz1 := (mk.pow4 h4).1
  have hz : 1 ≤ zs.length := by omega
  clear hr hq hk hpw hrg he hz1
  have HL4 := Lib.hid hl
  clear hi hl
  go_enter Try.func20, Try.ntmps20
  go_wp2_with fail
  refine (HT.out _ (Below.refl _ _)).mono ?_
  rintro e w' ⟨rfl, m, rfl⟩
  go_wp2_with fail
  refine (impl_range p ts q ((zs.length : Int) - 1) _ (HQ.out.below (ints.below_drewN (Below.refl _ _) m)) (by omega) true HIN).mono ?_
  rintro e w1 ⟨rfl, hb1⟩
  have HB1 := Lib.hid ((ints.below_drewN (Below.refl w.heap.size w) m).trans (hb1.mono (Nat.le_refl _)))
  clear hb1
  have HQ1 := Lib.hid (HQ.out.below HB1.out)
  have HR1 := Lib.hid (HR.out.below HB1.out)
  clear HQ HR
  have hl4 := HL4.out
  obtain ⟨x0, hx0, hl0⟩ := in_nat HIN.out 0 (by omega)
  obtain ⟨x1, hx1, hl1⟩ := in_nat HIN.out 1 (by omega)
  obtain ⟨x2, hx2, hl2⟩ := in_nat HIN.out 2 (by omega)
  obtain ⟨x3, hx3, hl3⟩ := in_nat HIN.out 3 (by omega)
  have HTR := Lib.hid (trade_in (n := m0) hl4 HIN.out hx0 hx1 hx2 hx3)
  obtain ⟨bt, ot, hpe, hbt, hc0⟩ := HQ1.out.at (k := 0) (by omega)
  obtain ⟨bt1, ot1, e1, hbt1, hc1⟩ := HQ1.out.at (k := 1) (by omega)
  obtain ⟨bt2, ot2, e2, hbt2, hc2⟩ := HQ1.out.at (k := 2) (by omega)
  obtain ⟨bt3, ot3, e3, hbt3, hc3⟩ := HQ1.out.at (k := 3) (by omega)
  subst hpe
  cases e1
  cases e2
  cases e3
  rw [hx0, Nat.add_zero] at hc0
  rw [hx1] at hc1
  rw [hx2] at hc2
  rw [hx3] at hc3
  clear hx0 hx1 hx2 hx3
  clear hl4
  rw [HL4.out]
  go_wp2_with fail
  go_quiet (fail)
  by_cases h01 : x0 ≤ x1
  · have g2 : decide (x1 < x0) = false := by rw [decide_eq_false_iff_not]; omega
    by_cases h23 : x2 ≤ x3
    · have g3 : decide (x3 < x2) = false := by rw [decide_eq_false_iff_not]; omega
      have HX16 := Lib.hid (show x0 < 16 ∧ x1 < 16 ∧ x2 < 16 ∧ x3 < 16 from ⟨by omega, by omega, by omega, by omega⟩)
      have HP := Lib.hid (show ∀ x, x < zs.length → x < 2 ^ m0 from fun x hx => by have := HL.out; omega)
      have HE := Lib.hid (show tradeB m0 zs ts = ((decide (zs.getD x0 0 + zs.getD x1 0 = 2) && decide (zs.getD x2 0 + zs.getD x3 0 = 0)) && decide ((ds x0 x1 0 = ds x2 x3 0 ∧ ds x0 x1 1 = ds x2 x3 1) ∧ (ds x0 x1 2 = ds x2 x3 2 ∧ ds x0 x1 3 = ds x2 x3 3))) from by rw [HTR.out, ← eq4, ← eq_four h4 (HP.out x0 hl0) (HP.out x1 hl1) (HP.out x2 hl2) (HP.out x3 hl3)]; unfold trN; rw [decide_eq_true h01, decide_eq_true h23]; rfl)
      clear HTR HP
      go_wp2_with fail
      refine (pair_sum x0 x1 _ HX16.out.1 HX16.out.2.1).mono ?_
      rintro e w2 ⟨rfl, hb2⟩
      go_wp2_with fail
      refine (pair_sum x2 x3 _ HX16.out.2.2.1 HX16.out.2.2.2).mono ?_
      rintro e w3 ⟨rfl, hb3⟩
      have HB3 := Lib.hid (HB1.out.trans (((ints.below_drewN (Below.refl w1.heap.size w1) _).trans (hb2.trans (hb3.mono hb2.size))).mono HB1.out.size))
      have HB13 := Lib.hid (show Below w1.heap.size w1 w3 from (ints.below_drewN (Below.refl w1.heap.size w1) _).trans (hb2.trans (hb3.mono hb2.size)))
      have HAR := Lib.hid (fun (wz : World) => arr_eq (ds x0 x1 0) (ds x0 x1 1) (ds x0 x1 2) (ds x0 x1 3) (ds x2 x3 0) (ds x2 x3 1) (ds x2 x3 2) (ds x2 x3 3) wz)
      have harr := HAR.out w3
      clear HAR hb2 hb3
      generalize tradeB m0 zs ts = ok at *
      generalize ds x0 x1 0 = y0 at *
      generalize ds x0 x1 1 = y1 at *
      generalize ds x0 x1 2 = y2 at *
      generalize ds x0 x1 3 = y3 at *
      generalize ds x2 x3 0 = u0 at *
      generalize ds x2 x3 1 = u1 at *
      generalize ds x2 x3 2 = u2 at *
      generalize ds x2 x3 3 = u3 at *
      by_cases hbits : (y0 = u0 ∧ y1 = u1) ∧ (y2 = u2 ∧ y3 = u3)
      · rw [decide_eq_true hbits, Bool.and_true] at HE
        rw [decide_eq_true hbits] at harr
        clear hbits
        have HR3 := Lib.hid (HR1.out.below (HB13.out))
        obtain ⟨bz, oz, hae, hbz, z0c⟩ := HR3.out.at hl0
        obtain ⟨bz1, oz1, f1, hbz1, z1c⟩ := HR3.out.at hl1
        obtain ⟨bz2, oz2, f2, hbz2, z2c⟩ := HR3.out.at hl2
        obtain ⟨bz3, oz3, f3, hbz3, z3c⟩ := HR3.out.at hl3
        subst hae
        cases f1
        cases f2
        cases f3
        have b0 := HA.out x0 hl0
        have b1 := HA.out x1 hl1
        have b2 := HA.out x2 hl2
        have b3 := HA.out x3 hl3
        have i00 : (0 : Int) ≤ (x0 : Int) := by omega
        have i01 : (x0 : Int) < (zs.length : Int) := by omega
        have i10 : (0 : Int) ≤ (x1 : Int) := by omega
        have i11 : (x1 : Int) < (zs.length : Int) := by omega
        have i20 : (0 : Int) ≤ (x2 : Int) := by omega
        have i21 : (x2 : Int) < (zs.length : Int) := by omega
        have i30 : (0 : Int) ≤ (x3 : Int) := by omega
        have i31 : (x3 : Int) < (zs.length : Int) := by omega
        have harr2 := fun (wz : World) => arr_eq (zs.getD x0 0) (zs.getD x1 0) (zs.getD x2 0) (zs.getD x3 0) 1 1 0 0 wz
        have hbu := fun (wz : World) (p q r s : Int) => run_build (P := Try.prog) wz 37 #[(0, .int .i64 p), (1, .int .i64 q), (2, .int .i64 r), (3, .int .i64 s)] #[.int .i64 p, .int .i64 q, .int .i64 r, .int .i64 s] (by kernel_rfl)
        rw [← ones_iff b0 b1 b2 b3] at HE
        generalize zs.getD x0 0 = z0 at *
        generalize zs.getD x1 0 = z1 at *
        generalize zs.getD x2 0 = z2 at *
        generalize zs.getD x3 0 = z3 at *
        simp only [← HE.out] at harr2
        clear HE b0 b1 b2 b3
        go_wp2_with fail
        go_quiet (fail)
        go_wp2_with fail
        go_ret2
        exact ⟨rfl, ints.below_drewN HB3.out _⟩
      · rw [decide_eq_false hbits, Bool.and_false] at HE
        rw [decide_eq_false hbits] at harr
        clear hbits
        obtain rfl : ok = false := HE.out
        clear HE
        go_wp2_with fail
        go_ret2
        exact ⟨rfl, HB3.out⟩
    · have hE : tradeB m0 zs ts = false := by rw [HTR.out]; unfold trN; rw [decide_eq_false h23]; simp
      clear HTR
      generalize tradeB m0 zs ts = ok at *
      subst hE
      have g3 : decide (x3 < x2) = true := by rw [decide_eq_true_eq]; omega
      go_wp2_with fail
      go_ret2
      exact ⟨rfl, ints.below_drewN HB1.out _⟩
  · have hE : tradeB m0 zs ts = false := by rw [HTR.out]; unfold trN; rw [decide_eq_false h01]; simp
    clear HTR
    generalize tradeB m0 zs ts = ok at *
    subst hE
    have g2 : decide (x1 < x0) = true := by rw [decide_eq_true_eq]; omega
    go_wp2_with fail
    go_ret2
    exact ⟨rfl, ints.below_drewN HB1.out _⟩
set_option maxRecDepth 100000 in
set_option maxHeartbeats 4000000 in
theorem impl_any (m0 : Nat) (a : Option Addr) (zs : List Int) (c : Nat) (p : Option Addr) (ts : List Int) (q : Nat) (w : World) (hr : ints.Reads .i64 w a zs) (hq : ints.Reads .i64 w p ts) (hm : ts.length ≤ 1048576) (hk : tab.tabB m0 zs = true) :
    Calls Try.prog 20 #[.int .i64 m0, .slice a zs.length c, .slice p ts.length q] w (RetBB (tradeB m0 zs ts) true w) := by
  by_cases hl : ts.length = 4
  · cases hi : numsR 0 ((zs.length : Int) - 1) ts
    · rw [trade_out hi]
      exact impl_out m0 a zs c p ts q w hr hq hm hk hl hi
    · exact impl_yes m0 a zs c p ts q w hr hq hm hk hl hi
  · rw [trade_len hl]
    exact impl_len m0 a zs c p ts q w hr hq hm hk hl
end Go.Proofs.Ytchlkcmgonbcjaa.istrade
