/- Several texts in one. -/
import Derived.BigQuiet
import Derived.Test.YtoephhhofkmgjabSpG12
import Derived.Test.YtoephhhofkmgjabSpG15
namespace Go.Proofs.Ytoephhhofkmgjab.trade
open Go.RowKit own pp nums range tab bitw dig pairw
set_option linter.unusedVariables false
set_option linter.unusedSimpArgs false

def eqBits (n a b c d : Nat) : Bool := (List.range n).all fun i => decide (ds a b i = ds c d i)
theorem eq_at {n a b c d : Nat} (h : eqBits n a b c d = true) (i : Nat) (hi : i < n) : ds a b i = ds c d i := by
  unfold eqBits at h
  rw [List.all_eq_true] at h
  exact of_decide_eq_true (h i (List.mem_range.2 hi))
theorem eq_all {n a b c d : Nat} (h : ∀ i, i < n → ds a b i = ds c d i) : eqBits n a b c d = true := by
  unfold eqBits
  rw [List.all_eq_true]
  intro i hi
  exact decide_eq_true (h i (List.mem_range.1 hi))
theorem eq_no {n a b c d : Nat} (i : Nat) (hi : i < n) (h : ds a b i ≠ ds c d i) : eqBits n a b c d = false := by
  cases hx : eqBits n a b c d
  · rfl
  · exact absurd (eq_at hx i hi) h
theorem eq_four {n a b c d : Nat} (h4 : n ≤ 4) (ha : a < 2 ^ n) (hb : b < 2 ^ n) (hc : c < 2 ^ n) (hd : d < 2 ^ n) : eqBits n a b c d = eqBits 4 a b c d := by
  have key : ∀ x i, x < 2 ^ n → n ≤ i → x / 2 ^ i % 2 = 0 := fun x i hx hi => by
    rw [Nat.div_eq_of_lt (Nat.lt_of_lt_of_le hx (Nat.pow_le_pow_right (by omega) hi))]
  rw [Bool.eq_iff_iff]
  constructor
  · intro h
    refine eq_all fun i hi => ?_
    by_cases e : i < n
    · exact eq_at h i e
    · unfold ds
      rw [key a i ha (by omega), key b i hb (by omega), key c i hc (by omega), key d i hd (by omega)]
  · intro h
    exact eq_all fun i hi => eq_at h i (by omega)
/-- Whether four places are a trade. -/
def trN (n : Nat) (zs : List Int) (a b c d : Nat) : Bool := (decide (a ≤ b) && decide (c ≤ d)) && ((decide (zs.getD a 0 + zs.getD b 0 = 2) && decide (zs.getD c 0 + zs.getD d 0 = 0)) && eqBits n a b c d)
def tradeB (n : Nat) (zs ts : List Int) : Bool := (decide (ts.length = 4) && numsR 0 ((zs.length : Int) - 1) ts) && trN n zs (ts.getD 0 0).toNat (ts.getD 1 0).toNat (ts.getD 2 0).toNat (ts.getD 3 0).toNat
theorem trade_len {n : Nat} {zs ts : List Int} (h : ts.length ≠ 4) : tradeB n zs ts = false := by
  unfold tradeB; rw [decide_eq_false h]; rfl
theorem trade_out {n : Nat} {zs ts : List Int} (h : numsR 0 ((zs.length : Int) - 1) ts = false) : tradeB n zs ts = false := by
  unfold tradeB; rw [h, Bool.and_false]; rfl
theorem trade_in {n : Nat} {zs ts : List Int} (hl : ts.length = 4) (h : numsR 0 ((zs.length : Int) - 1) ts = true) {a b c d : Nat} (ha : ts.getD 0 0 = a) (hb : ts.getD 1 0 = b) (hc : ts.getD 2 0 = c) (hd : ts.getD 3 0 = d) : tradeB n zs ts = trN n zs a b c d := by
  unfold tradeB
  rw [h, decide_eq_true hl, ha, hb, hc, hd]; rfl
theorem in_nat {zs ts : List Int} (h : numsR 0 ((zs.length : Int) - 1) ts = true) (i : Nat) (hi : i < ts.length) : ∃ x : Nat, ts.getD i 0 = x ∧ x < zs.length := by
  have := numsR_at h i hi
  exact ⟨(ts.getD i 0).toNat, by omega, by omega⟩
set_option maxRecDepth 100000 in
set_option maxHeartbeats 4000000 in
theorem spec_trade (n : Nat) (a : Option Addr) (zs : List Int) (c : Nat) (p : Option Addr) (ts : List Int) (q : Nat) (w : World) (hr : ints.Reads .i64 w a zs) (hq : ints.Reads .i64 w p ts) (hm : ts.length ≤ 1048576) (hk : tab.tabB n zs = true) (ok : Bool) (h : Hid (tradeB n zs ts = ok)) :
    Calls Try.prog 71 #[.int .i64 n, .slice a zs.length c, .slice p ts.length q] w (fun e w' => e = .returned (.bool ok) ∧ ∃ m, w' = w.drewN m) := by
  obtain ⟨m0, he, h4, hpw, h16, hrg⟩ := tab_nat hk
  obtain rfl : n = m0 := by omega
  have HA := Lib.hid (tab_at hk)
  have HL := Lib.hid hpw
  clear hk hpw hrg he
  have hHR := Lib.hid hr
  go_enter Try.func71, Try.ntmps71
  go_wp2_with fail
  go_loop [7] (fun i => ∃ k : Nat, k ≤ ts.length ∧ i = .int .i64 k ∧ Hid (∀ j, j < k → inR 0 ((zs.length : Int) - 1) (ts.getD j 0) = true)) (fun i => ts.length - (intOf i).toNat)
  case atStart => exact ⟨0, Nat.zero_le _, rfl, fun j hj => by omega⟩
  case round =>
    obtain ⟨k, hk, rfl, hj⟩ := hrel
    by_cases hlt : k < ts.length
    · obtain ⟨b, off, rfl, hb, hc⟩ := hq.at hlt
      have i1 : (0 : Int) ≤ (k : Int) := by omega
      have i2 : (k : Int) < (ts.length : Int) := by omega
      cases hx : inR 0 ((zs.length : Int) - 1) (ts.getD k 0)
      · have e : ok = false := by rw [← h.out]; exact trade_out (by unfold numsR; exact all_false _ 0 ts k hlt hx)
        have HX := Lib.hid hx
        clear h hx hj
        subst e
        unfold inR at HX
        generalize hs : ts.getD k 0 = s at *
        clear hs
        go_wp2_with fail
        refine (in_any _ _ _ _ false HX).mono ?_
        rintro e w' ⟨rfl, rfl⟩
        go_wp2_with fail
        go_ret
        exact ⟨rfl, 0, rfl⟩
      · have HJ : Hid (∀ j, j < k + 1 → inR 0 ((zs.length : Int) - 1) (ts.getD j 0) = true) := fun j h => by
          by_cases e : j = k
          · rw [e]; exact hx
          · exact hj.out j (by omega)
        have HX := Lib.hid hx
        clear hx hj
        unfold inR at HX
        generalize hs : ts.getD k 0 = s at *
        clear hs
        go_wp2_with fail
        refine (in_any _ _ _ _ true HX).mono ?_
        rintro e w' ⟨rfl, rfl⟩
        go_wp2_with fail
        go_round
        case rel => exact ⟨k + 1, by omega, by go_num, HJ⟩
        case measure => simp [intOf]; omega
    · obtain rfl : k = ts.length := by omega
      have HIN := Lib.hid (show numsR 0 ((zs.length : Int) - 1) ts = true from by unfold numsR; exact all_true _ 0 ts (fun j hj' => hj.out j hj'))
      clear hj
      by_cases hl4 : ts.length = 4
      · have HL4 := Lib.hid hl4
        obtain ⟨x0, hx0, hl0⟩ := in_nat HIN.out 0 (by omega)
        obtain ⟨x1, hx1, hl1⟩ := in_nat HIN.out 1 (by omega)
        obtain ⟨x2, hx2, hl2⟩ := in_nat HIN.out 2 (by omega)
        obtain ⟨x3, hx3, hl3⟩ := in_nat HIN.out 3 (by omega)
        have HT := Lib.hid (trade_in (n := n) hl4 HIN.out hx0 hx1 hx2 hx3)
        obtain ⟨bt, ot, hpe, hbt, hc0⟩ := hq.at (k := 0) (by omega)
        obtain ⟨bt1, ot1, e1, hbt1, hc1⟩ := hq.at (k := 1) (by omega)
        obtain ⟨bt2, ot2, e2, hbt2, hc2⟩ := hq.at (k := 2) (by omega)
        obtain ⟨bt3, ot3, e3, hbt3, hc3⟩ := hq.at (k := 3) (by omega)
        subst hpe
        cases e1
        cases e2
        cases e3
        rw [hx0, Nat.add_zero] at hc0
        rw [hx1] at hc1
        rw [hx2] at hc2
        rw [hx3] at hc3
        clear hx0 hx1 hx2 hx3
        obtain ⟨bz, oz, hae, hbz, z0c⟩ := hr.at hl0
        obtain ⟨bz1, oz1, f1, hbz1, z1c⟩ := hr.at hl1
        obtain ⟨bz2, oz2, f2, hbz2, z2c⟩ := hr.at hl2
        obtain ⟨bz3, oz3, f3, hbz3, z3c⟩ := hr.at hl3
        subst hae
        cases f1
        cases f2
        cases f3
        have b0 := HA.out x0 hl0
        have b1 := HA.out x1 hl1
        have b2 := HA.out x2 hl2
        have b3 := HA.out x3 hl3
        have i00 : (0 : Int) ≤ (x0 : Int) := by omega
        have i01 : (x0 : Int) < (zs.length : Int) := by omega
        have i10 : (0 : Int) ≤ (x1 : Int) := by omega
        have i11 : (x1 : Int) < (zs.length : Int) := by omega
        have i20 : (0 : Int) ≤ (x2 : Int) := by omega
        have i21 : (x2 : Int) < (zs.length : Int) := by omega
        have i30 : (0 : Int) ≤ (x3 : Int) := by omega
        have i31 : (x3 : Int) < (zs.length : Int) := by omega
        clear hl4 hlt
        rw [HL4.out]
        by_cases h01 : x0 ≤ x1
        · have g2 : decide (x1 < x0) = false := by rw [decide_eq_false_iff_not]; omega
          by_cases h23 : x2 ≤ x3
          · have g3 : decide (x3 < x2) = false := by rw [decide_eq_false_iff_not]; omega
            by_cases hs1 : zs.getD x0 0 + zs.getD x1 0 = 2
            · by_cases hs2 : zs.getD x2 0 + zs.getD x3 0 = 0
              · have HE := Lib.hid (show eqBits n x0 x1 x2 x3 = ok by rw [← h.out, HT.out]; unfold trN; rw [decide_eq_true h01, decide_eq_true h23, decide_eq_true hs1, decide_eq_true hs2]; rfl)
                have g4 : ((zs.getD x0 0 + zs.getD x1 0) != 2) = false := by rw [bne_eq_false_iff_eq]; exact hs1
                have g5 : ((zs.getD x2 0 + zs.getD x3 0) != 0) = false := by rw [bne_eq_false_iff_eq]; exact hs2
                have HY := Lib.hid (show x0 < 16 ∧ x1 < 16 ∧ x2 < 16 ∧ x3 < 16 from ⟨by omega, by omega, by omega, by omega⟩)
                clear hs1 hs2 h HT
                generalize zs.getD x0 0 = z0 at *
                generalize zs.getD x1 0 = z1 at *
                generalize zs.getD x2 0 = z2 at *
                generalize zs.getD x3 0 = z3 at *
                have j0 : 0 ≤ z0 ∧ z0 ≤ 1 := by omega
                have j1 : 0 ≤ z1 ∧ z1 ≤ 1 := by omega
                have j2 : 0 ≤ z2 ∧ z2 ≤ 1 := by omega
                have j3 : 0 ≤ z3 ∧ z3 ≤ 1 := by omega
                clear b0 b1 b2 b3
                go_wp2_with fail
                go_quiet (fail)
                clear g4 g5 z0c z1c z2c z3c i00 i01 i10 i11 i20 i21 i30 i31
                go_wp2_with fail
                go_loopw [8] (fun i wr => ∃ k : Nat, k ≤ n ∧ i = .int .i64 k ∧ Hid (∀ j, j < k → ds x0 x1 j = ds x2 x3 j) ∧ ∃ m, wr = w.drewN m) (fun i _ => n - (intOf i).toNat)
                case atStart => exact ⟨0, Nat.zero_le _, rfl, fun j hj => by omega, _, rfl⟩
                case round =>
                  obtain ⟨k, hk, rfl, hj, m, rfl⟩ := hrel
                  by_cases hlt : k < n
                  · have hk4 : k < 4 := by omega
                    have q0 := bit_at x0 k HY.out.1
                    have q1 := bit_at x1 k HY.out.2.1
                    have q2 := bit_at x2 k HY.out.2.2.1
                    have q3 := bit_at x3 k HY.out.2.2.2
                    have hda : ds x0 x1 k = ((x0 / 2 ^ k % 2 : Nat) : Int) + ((x1 / 2 ^ k % 2 : Nat) : Int) := rfl
                    have hdb : ds x2 x3 k = ((x2 / 2 ^ k % 2 : Nat) : Int) + ((x3 / 2 ^ k % 2 : Nat) : Int) := rfl
                    have l0 : x0 / 2 ^ k % 2 ≤ 1 := by omega
                    have l1 : x1 / 2 ^ k % 2 ≤ 1 := by omega
                    have l2 : x2 / 2 ^ k % 2 ≤ 1 := by omega
                    have l3 : x3 / 2 ^ k % 2 ≤ 1 := by omega
                    replace hc0 : (w.drewN m).cell? ⟨bt, ot, none⟩ = some (.int .i64 (x0 : Int)) := hc0
                    replace hc1 : (w.drewN m).cell? ⟨bt, ot + 1, none⟩ = some (.int .i64 (x1 : Int)) := hc1
                    replace hc2 : (w.drewN m).cell? ⟨bt, ot + 2, none⟩ = some (.int .i64 (x2 : Int)) := hc2
                    replace hc3 : (w.drewN m).cell? ⟨bt, ot + 3, none⟩ = some (.int .i64 (x3 : Int)) := hc3
                    have HM := Lib.hid (show ∀ n, ∃ q, (w.drewN m).drewN n = w.drewN q from fun n => ⟨_, World.drewN_drewN _ _ _⟩)
                    generalize w.drewN m = wm at *
                    by_cases hd : ds x0 x1 k = ds x2 x3 k
                    · have HJ : Hid (∀ j, j < k + 1 → ds x0 x1 j = ds x2 x3 j) := fun j h => by
                        by_cases e : j = k
                        · rw [e]; exact hd
                        · exact hj.out j (by omega)
                      rw [hda, hdb] at hd
                      clear hda hdb
                      generalize x0 / 2 ^ k % 2 = d0 at *
                      generalize x1 / 2 ^ k % 2 = d1 at *
                      generalize x2 / 2 ^ k % 2 = d2 at *
                      generalize x3 / 2 ^ k % 2 = d3 at *
                      have g : (((d0 : Int) + (d1 : Int)) != ((d2 : Int) + (d3 : Int))) = false := by rw [bne_eq_false_iff_eq]; exact hd
                      clear hd hj
                      go_wp2_with fail
                      go_quiet (fail)
                      go_wp2_with fail
                      go_roundw
                      case rel => exact ⟨k + 1, by omega, by go_num, HJ, HM.out _⟩
                      case measure => simp [intOf]; omega
                    · obtain rfl : ok = false := by rw [← HE.out]; exact eq_no k hlt hd
                      rw [hda, hdb] at hd
                      clear hda hdb
                      generalize x0 / 2 ^ k % 2 = d0 at *
                      generalize x1 / 2 ^ k % 2 = d1 at *
                      generalize x2 / 2 ^ k % 2 = d2 at *
                      generalize x3 / 2 ^ k % 2 = d3 at *
                      have g : (((d0 : Int) + (d1 : Int)) != ((d2 : Int) + (d3 : Int))) = true := by rw [bne_iff_ne]; exact hd
                      clear hd hj
                      go_wp2_with fail
                      go_quiet (fail)
                      go_wp2_with fail
                      go_ret
                      exact ⟨rfl, HM.out _⟩
                  · obtain rfl : k = n := by omega
                    obtain rfl : ok = true := by rw [← HE.out]; exact eq_all hj.out
                    clear hj
                    go_wp2_with fail
                    go_ret
                    exact ⟨rfl, _, rfl⟩
              · obtain rfl : ok = false := by rw [← h.out, HT.out]; unfold trN; rw [decide_eq_false hs2]; simp
                have g4 : ((zs.getD x0 0 + zs.getD x1 0) != 2) = false := by rw [bne_eq_false_iff_eq]; exact hs1
                have g5 : ((zs.getD x2 0 + zs.getD x3 0) != 0) = true := by rw [bne_iff_ne]; exact hs2
                clear hs1 hs2 h HT
                generalize zs.getD x0 0 = z0 at *
                generalize zs.getD x1 0 = z1 at *
                generalize zs.getD x2 0 = z2 at *
                generalize zs.getD x3 0 = z3 at *
                have j0 : 0 ≤ z0 ∧ z0 ≤ 1 := by omega
                have j1 : 0 ≤ z1 ∧ z1 ≤ 1 := by omega
                have j2 : 0 ≤ z2 ∧ z2 ≤ 1 := by omega
                have j3 : 0 ≤ z3 ∧ z3 ≤ 1 := by omega
                clear b0 b1 b2 b3
                go_wp2_with fail
                go_quiet (fail)
                go_wp2_with fail
                go_ret
                exact ⟨rfl, _, rfl⟩
            · obtain rfl : ok = false := by rw [← h.out, HT.out]; unfold trN; rw [decide_eq_false hs1]; simp
              have g4 : ((zs.getD x0 0 + zs.getD x1 0) != 2) = true := by rw [bne_iff_ne]; exact hs1
              clear hs1 h HT
              generalize zs.getD x0 0 = z0 at *
              generalize zs.getD x1 0 = z1 at *
              have j0 : 0 ≤ z0 ∧ z0 ≤ 1 := by omega
              have j1 : 0 ≤ z1 ∧ z1 ≤ 1 := by omega
              clear b0 b1 b2 b3
              go_wp2_with fail
              go_quiet (fail)
              go_wp2_with fail
              go_ret
              exact ⟨rfl, _, rfl⟩
          · obtain rfl : ok = false := by rw [← h.out, HT.out]; unfold trN; rw [decide_eq_false h23]; simp
            have g3 : decide (x3 < x2) = true := by rw [decide_eq_true_eq]; omega
            clear h HT b0 b1 b2 b3
            go_wp2_with fail
            go_quiet (fail)
            go_wp2_with fail
            go_ret
            exact ⟨rfl, _, rfl⟩
        · obtain rfl : ok = false := by rw [← h.out, HT.out]; unfold trN; rw [decide_eq_false h01]; simp
          have g2 : decide (x1 < x0) = true := by rw [decide_eq_true_eq]; omega
          clear h HT b0 b1 b2 b3
          go_wp2_with fail
          go_quiet (fail)
          go_wp2_with fail
          go_ret
          exact ⟨rfl, _, rfl⟩
      · have g1 : ((ts.length : Int) != 4) = true := by rw [bne_iff_ne]; omega
        obtain rfl : ok = false := by rw [← h.out]; exact trade_len hl4
        clear hl4 h
        go_wp2_with fail
        go_quiet (fail)
        go_wp2_with fail
        go_ret
        exact ⟨rfl, _, rfl⟩
end Go.Proofs.Ytoephhhofkmgjab.trade

namespace Go.Proofs.Ytoephhhofkmgjab.findp
open Go.RowKit own pp nums range tab pairw trade
set_option linter.unusedVariables false
set_option linter.unusedSimpArgs false

/-- The first number below N where p holds. -/
def first (p : Nat → Bool) : Nat → Option Nat
  | 0 => none
  | k + 1 => match first p k with
    | some x => some x
    | none => if p k then some k else none
theorem first_none {p : Nat → Bool} {N : Nat} (h : ∀ j, j < N → p j = false) : first p N = none := by
  induction N with
  | zero => rfl
  | succ N ih => rw [first, ih (fun j hj => h j (by omega)), h N (by omega)]; rfl
theorem first_some {p : Nat → Bool} {k N : Nat} (hk : p k = true) (h : ∀ j, j < k → p j = false) (hN : k < N) : first p N = some k := by
  induction N with
  | zero => omega
  | succ N ih =>
    by_cases e : k < N
    · rw [first, ih e]
    · obtain rfl : k = N := by omega
      rw [first, first_none h, hk]; rfl
/-- Four places as one number. -/
def okC (n : Nat) (zs : List Int) (k : Nat) : Bool := decide ((k / 4096 < zs.length ∧ k / 256 % 16 < zs.length) ∧ (k / 16 % 16 < zs.length ∧ k % 16 < zs.length)) && trN n zs (k / 4096) (k / 256 % 16) (k / 16 % 16) (k % 16)
def code (a b c d : Nat) : Nat := a * 4096 + b * 256 + c * 16 + d
def dec (k : Nat) : List Int := [((k / 4096 : Nat) : Int), ((k / 256 % 16 : Nat) : Int), ((k / 16 % 16 : Nat) : Int), ((k % 16 : Nat) : Int)]
def findN (N n : Nat) (zs : List Int) : List Int := match first (okC n zs) N with
  | some k => dec k
  | none => []
theorem findN_none {N n : Nat} {zs : List Int} (h : ∀ j, j < N → okC n zs j = false) : findN N n zs = [] := by
  unfold findN
  rw [first_none h]
theorem findN_hit {N n k : Nat} {zs : List Int} (hk : okC n zs k = true) (h : ∀ j, j < k → okC n zs j = false) (hN : k < N) : findN N n zs = dec k := by
  unfold findN
  rw [first_some hk h hN]
theorem findN_len (N n : Nat) (zs : List Int) : (findN N n zs).length ≤ 4 := by
  unfold findN
  cases first (okC n zs) N <;> simp [dec]
def findT (n : Nat) (zs : List Int) : List Int := findN 65536 n zs
theorem code_dec {a b c d : Nat} (ha : a < 16) (hb : b < 16) (hc : c < 16) (hd : d < 16) : code a b c d / 4096 = a ∧ code a b c d / 256 % 16 = b ∧ code a b c d / 16 % 16 = c ∧ code a b c d % 16 = d := by
  unfold code; omega
theorem okC_at {n : Nat} {zs : List Int} (hz : zs.length ≤ 16) {a b c d : Nat} (ha : a < zs.length) (hb : b < zs.length) (hc : c < zs.length) (hd : d < zs.length) : okC n zs (code a b c d) = trN n zs a b c d := by
  obtain ⟨h1, h2, h3, h4⟩ := code_dec (a := a) (b := b) (c := c) (d := d) (by omega) (by omega) (by omega) (by omega)
  unfold okC
  rw [h1, h2, h3, h4, decide_eq_true ⟨⟨ha, hb⟩, hc, hd⟩, Bool.true_and]
theorem okC_in {n : Nat} {zs : List Int} {k : Nat} (h : okC n zs k = true) : ((k / 4096 < zs.length ∧ k / 256 % 16 < zs.length) ∧ (k / 16 % 16 < zs.length ∧ k % 16 < zs.length)) ∧ trN n zs (k / 4096) (k / 256 % 16) (k / 16 % 16) (k % 16) = true := by
  unfold okC at h
  rw [Bool.and_eq_true, decide_eq_true_eq] at h
  exact h
theorem tr_in {n : Nat} {zs : List Int} {a b c d : Nat} (h : trN n zs a b c d = true) : (a ≤ b ∧ c ≤ d) ∧ (zs.getD a 0 + zs.getD b 0 = 2 ∧ zs.getD c 0 + zs.getD d 0 = 0) ∧ eqBits n a b c d = true := by
  unfold trN at h
  simp only [Bool.and_eq_true, decide_eq_true_eq] at h
  exact h
theorem find_hit {n : Nat} {zs : List Int} (hz : zs.length ≤ 16) {a b c d : Nat} (ha : a < zs.length) (hb : b < zs.length) (hc : c < zs.length) (hd : d < zs.length) (ht : trN n zs a b c d = true) (h : ∀ j, j < code a b c d → okC n zs j = false) : findT n zs = [(a : Int), (b : Int), (c : Int), (d : Int)] := by
  obtain ⟨h1, h2, h3, h4⟩ := code_dec (a := a) (b := b) (c := c) (d := d) (by omega) (by omega) (by omega) (by omega)
  have e : dec (code a b c d) = [(a : Int), (b : Int), (c : Int), (d : Int)] := by
    unfold dec
    rw [h1, h2, h3, h4]
  rw [← e]
  exact findN_hit (by rw [okC_at hz ha hb hc hd]; exact ht) h (by unfold code; omega)
theorem find_none {n : Nat} {zs : List Int} (h : ∀ j, j < 65536 → okC n zs j = false) : findT n zs = [] := findN_none h
/-- Numbers from x on where it holds not either. -/
theorem adv {n : Nat} {zs : List Int} {x y : Nat} (h : ∀ j, j < x → okC n zs j = false) (hs : ∀ j, x ≤ j → j < y → okC n zs j = true → False) : ∀ j, j < y → okC n zs j = false := by
  intro j hj
  by_cases e : j < x
  · exact h j e
  · cases hx : okC n zs j
    · rfl
    · exact (hs j (by omega) hj hx).elim
theorem find_len (n : Nat) (zs : List Int) : (findT n zs).length ≤ 4 := findN_len 65536 n zs
end Go.Proofs.Ytoephhhofkmgjab.findp

namespace Go.Proofs.Ytoephhhofkmgjab.finds
open Go.RowKit own pp nums range tab pairw trade findp
set_option linter.unusedVariables false
set_option linter.unusedSimpArgs false

set_option maxRecDepth 100000 in
set_option maxHeartbeats 4000000 in
theorem spec_find (n : Nat) (a0 : Option Addr) (zs : List Int) (c : Nat) (w : World) (hr : ints.Reads .i64 w a0 zs) (hk : tab.tabB n zs = true) :
    Calls Try.prog 38 #[.int .i64 n, .slice a0 zs.length c] w (intfns.Made (findT n zs) w) := by
  obtain ⟨m0, he, h4, hpw, h16, hrg⟩ := tab_nat hk
  obtain rfl : n = m0 := by omega
  have HA := Lib.hid (tab_at hk)
  have HK := Lib.hid hk
  have HR := Lib.hid hr
  clear hk hpw hrg he hr
  go_enter Try.func38, Try.ntmps38
  go_wp2_with fail
  go_loopw [5] (fun i wr => ∃ a : Nat, a ≤ zs.length ∧ i = .int .i64 a ∧ Hid (∀ j, j < code a 0 0 0 → okC n zs j = false) ∧ Below w.heap.size w wr) (fun i _ => zs.length - (intOf i).toNat)
  case atStart => exact ⟨0, Nat.zero_le _, rfl, fun j hj => by unfold code at hj; omega, Below.refl _ _⟩
  case round =>
    obtain ⟨a, ha, rfl, hja, hbel⟩ := hrel
    have HBa := Lib.hid hbel
    clear hbel
    by_cases hal : a < zs.length
    · go_wp2_with fail
      go_loopw [6] (fun i wr2 => ∃ b : Nat, a ≤ b ∧ b ≤ zs.length ∧ i = .int .i64 b ∧ Hid (∀ j, j < code a b 0 0 → okC n zs j = false) ∧ Below w.heap.size w wr2) (fun i _ => zs.length - (intOf i).toNat)
      case atStart => exact ⟨a, Nat.le_refl _, ha, rfl, adv hja.out (fun j h1 h2 h3 => by have := (tr_in (okC_in h3).2).1.1; unfold code at h1 h2; omega), HBa.out⟩
      case round =>
        obtain ⟨b, hab, hb, rfl, hjb, hbel⟩ := hrel
        have HBb := Lib.hid hbel
        clear hbel
        by_cases hbl : b < zs.length
        · obtain ⟨bz, oz, hae, hbz, hca⟩ := (HR.out.below HBb.out).at hal
          subst hae
          obtain ⟨bz2, oz2, e2, hbz2, hcb⟩ := (HR.out.below HBb.out).at hbl
          cases e2
          have i1 : (0 : Int) ≤ (a : Int) := by omega
          have i2 : (a : Int) < (zs.length : Int) := by omega
          have i3 : (0 : Int) ≤ (b : Int) := by omega
          have i4 : (b : Int) < (zs.length : Int) := by omega
          have ba := HA.out a hal
          have bb := HA.out b hbl
          have HCC := Lib.hid (fun (wz : World) (hB : Below w.heap.size w wz) => (HR.out.below hB))
          by_cases h11 : zs.getD a 0 = 1 ∧ zs.getD b 0 = 1
          · obtain ⟨h1a, h1b⟩ := h11
            have HZ := Lib.hid (show zs.getD a 0 = 1 ∧ zs.getD b 0 = 1 from ⟨h1a, h1b⟩)
            clear h1a h1b ba bb hca hcb
            go_wp2_with fail
            go_loopw [7] (fun i wr3 => ∃ cc : Nat, cc ≤ zs.length ∧ i = .int .i64 cc ∧ Hid (∀ j, j < code a b cc 0 → okC n zs j = false) ∧ Below w.heap.size w wr3) (fun i _ => zs.length - (intOf i).toNat)
            case atStart => exact ⟨0, Nat.zero_le _, rfl, hjb, HBb.out⟩
            case round =>
              obtain ⟨cc, hc, rfl, hjc, hbel⟩ := hrel
              have HBc := Lib.hid hbel
              clear hbel
              by_cases hcl : cc < zs.length
              · obtain ⟨bz1, oz1, e1, hbz1, hca⟩ := (HCC.out _ HBc.out).at hal
                cases e1
                obtain ⟨bz2, oz2, e2, hbz2, hcb⟩ := (HCC.out _ HBc.out).at hbl
                cases e2
                rw [HZ.out.1] at hca
                rw [HZ.out.2] at hcb
                go_wp2_with fail
                go_loopw [8] (fun i wr4 => ∃ d : Nat, cc ≤ d ∧ d ≤ zs.length ∧ i = .int .i64 d ∧ Hid (∀ j, j < code a b cc d → okC n zs j = false) ∧ Below w.heap.size w wr4) (fun i _ => zs.length - (intOf i).toNat)
                case atStart => exact ⟨cc, Nat.le_refl _, hc, rfl, adv hjc.out (fun j h1 h2 h3 => by have := (tr_in (okC_in h3).2).1.2; unfold code at h1 h2; omega), HBc.out⟩
                case round =>
                  obtain ⟨d, hcd, hd, rfl, hjd, hbel⟩ := hrel
                  have HBd := Lib.hid hbel
                  have hsz := hbel.size
                  clear hbel
                  by_cases hdl : d < zs.length
                  · have HBn := Lib.hid (HBd.out.alloc hsz (.cells #[.int .i64 a, .int .i64 b, .int .i64 cc, .int .i64 d] 3))
                    have HT := Lib.hid (trade_in (n := n) (zs := zs) (ts := [(a : Int), (b : Int), (cc : Int), (d : Int)]) (a := a) (b := b) (c := cc) (d := d) rfl (by simp [numsR, inR]; omega) rfl rfl rfl rfl)
                    have HRD := Lib.hid (show ints.Reads .i64 (wr.alloc (.cells #[.int .i64 a, .int .i64 b, .int .i64 cc, .int .i64 d] 3)) (some ⟨wr.heap.size, 0, none⟩) [(a : Int), (b : Int), (cc : Int), (d : Int)] from .inr ⟨wr.heap.size, 0, rfl, by simp, fun i hi => by
                      have h4i : i = 0 ∨ i = 1 ∨ i = 2 ∨ i = 3 := by simp at hi; omega
                      rcases h4i with rfl | rfl | rfl | rfl <;> exact cell_new _ _ _ rfl rfl⟩)
                    have HOW := Lib.hid (show (wr.alloc (.cells #[.int .i64 a, .int .i64 b, .int .i64 cc, .int .i64 d] 3)).ownsRow wr.heap.size 3 1 (.slice (some ⟨wr.heap.size, 0, none⟩) 4 4) 4 ([(a : Int), (b : Int), (cc : Int), (d : Int)].map (Value.int .i64)) from ⟨by simp, .inr ⟨wr.heap.size, 4, #[.int .i64 a, .int .i64 b, .int .i64 cc, .int .i64 d], rfl, Nat.le_refl _, heap_alloc_new wr _, Nat.le_refl _, by unfold maxLen; omega, rfl, rfl⟩⟩)
                    cases htr : trN n zs a b cc d
                    · have HC := Lib.hid (spec_trade n _ zs c (some ⟨wr.heap.size, 0, none⟩) [(a : Int), (b : Int), (cc : Int), (d : Int)] 4 _ (HCC.out _ HBn.out) HRD.out (by simp) HK.out false (Lib.hid (by rw [HT.out, htr])))
                      have HJ : Hid (∀ j, j < code a b cc (d + 1) → okC n zs j = false) := adv hjd.out (fun j h1 h2 h3 => by
                        obtain rfl : j = code a b cc d := by unfold code at h1 h2 ⊢; omega
                        rw [okC_at h16 hal hbl hcl hdl, htr] at h3
                        cases h3)
                      clear htr hjd HT HOW hca hcb
                      go_wp2_with fail
                      refine HC.out.mono ?_
                      rintro e w' ⟨rfl, m, rfl⟩
                      go_wp2_with fail
                      go_roundw
                      case rel => exact ⟨d + 1, by omega, by omega, by go_num, HJ, ints.below_drewN HBn.out _⟩
                      case measure => simp [intOf]; omega
                    · have HC := Lib.hid (spec_trade n _ zs c (some ⟨wr.heap.size, 0, none⟩) [(a : Int), (b : Int), (cc : Int), (d : Int)] 4 _ (HCC.out _ HBn.out) HRD.out (by simp) HK.out true (Lib.hid (by rw [HT.out, htr])))
                      have HF := Lib.hid (find_hit h16 hal hbl hcl hdl htr hjd.out)
                      clear htr hjd HT hca hcb
                      go_wp2_with fail
                      refine HC.out.mono ?_
                      rintro e w' ⟨rfl, m, rfl⟩
                      have HFIN := Lib.hid (show intfns.Made (findT n zs) w (.returned (.slice (some ⟨wr.heap.size, 0, none⟩) 4 4)) ((wr.alloc (.cells #[.int .i64 a, .int .i64 b, .int .i64 cc, .int .i64 d] 3)).drewN m) from ⟨_, rfl, by rw [HF.out]; exact (OwnI.of (lo := wr.heap.size) (w := (wr.alloc (.cells #[.int .i64 a, .int .i64 b, .int .i64 cc, .int .i64 d] 3)).drewN m) HOW.out).mono hsz (Nat.le_refl _), ints.below_drewN HBn.out _⟩)
                      go_wp2_with fail
                      go_ret
                      exact HFIN.out
                  · obtain rfl : d = zs.length := by omega
                    have HJ : Hid (∀ j, j < code a b (cc + 1) 0 → okC n zs j = false) := adv hjd.out (fun j h1 h2 h3 => by have := (okC_in h3).1.2; unfold code at h1 h2; omega)
                    clear hjd hca hcb
                    go_wp2_with fail
                    go_roundw
                    case rel => exact ⟨cc + 1, by omega, by go_num, HJ, HBd.out⟩
                    case measure => simp [intOf]; omega
              · obtain rfl : cc = zs.length := by omega
                have HJ : Hid (∀ j, j < code a (b + 1) 0 0 → okC n zs j = false) := adv hjc.out (fun j h1 h2 h3 => by have := (okC_in h3).1.2; unfold code at h1 h2; omega)
                clear hjc
                go_wp2_with fail
                go_roundw
                case rel => exact ⟨b + 1, by omega, by omega, by go_num, HJ, HBc.out⟩
                case measure => simp [intOf]; omega
          · have HJ : Hid (∀ j, j < code a (b + 1) 0 0 → okC n zs j = false) := adv hjb.out (fun j h1 h2 h3 => by
              have h5 := (okC_in h3).1
              have h6 := (tr_in (okC_in h3).2).2.1.1
              have e1 : j / 4096 = a := by unfold code at h1 h2; omega
              have e2 : j / 256 % 16 = b := by unfold code at h1 h2; omega
              rw [e1, e2] at h6
              omega)
            clear hjb
            by_cases h1a : zs.getD a 0 = 1
            · have HE := Lib.hid (show (zs.getD b 0 == 1) = false by rw [beq_eq_false_iff_ne]; exact fun e => h11 ⟨h1a, e⟩)
              have HE2 := Lib.hid h1a
              clear h11 h1a
              clear hca hcb ba bb
              go_wp2_with fail
              go_loopw [7] (fun i wr3 => i = .int .i64 0 ∧ Below w.heap.size w wr3) (fun i _ => 0)
              case atStart => exact ⟨rfl, HBb.out⟩
              case round =>
                obtain ⟨rfl, hbel⟩ := hrel
                have HBc := Lib.hid hbel
                clear hbel
                obtain ⟨bz1, oz1, e1, hbz1, hca⟩ := (HCC.out _ HBc.out).at hal
                cases e1
                obtain ⟨bz2, oz2, e2, hbz2, hcb⟩ := (HCC.out _ HBc.out).at hbl
                cases e2
                rw [HE2.out] at hca
                have g1 := HE.out
                generalize zs.getD b 0 = z at *
                go_wp2_with fail
                go_roundw
                case rel => exact ⟨b + 1, by omega, by omega, by go_num, HJ, HBc.out⟩
                case measure => simp [intOf]; omega
            · have HE := Lib.hid (show (zs.getD a 0 == 1) = false by rw [beq_eq_false_iff_ne]; exact h1a)
              clear h11 h1a
              clear hca hcb ba bb
              go_wp2_with fail
              go_loopw [7] (fun i wr3 => i = .int .i64 0 ∧ Below w.heap.size w wr3) (fun i _ => 0)
              case atStart => exact ⟨rfl, HBb.out⟩
              case round =>
                obtain ⟨rfl, hbel⟩ := hrel
                have HBc := Lib.hid hbel
                clear hbel
                obtain ⟨bz1, oz1, e1, hbz1, hca⟩ := (HCC.out _ HBc.out).at hal
                cases e1
                obtain ⟨bz2, oz2, e2, hbz2, hcb⟩ := (HCC.out _ HBc.out).at hbl
                cases e2
                have g1 := HE.out
                clear hcb
                generalize zs.getD a 0 = z at *
                go_wp2_with fail
                go_roundw
                case rel => exact ⟨b + 1, by omega, by omega, by go_num, HJ, HBc.out⟩
                case measure => simp [intOf]; omega
        · obtain rfl : b = zs.length := by omega
          have HJ : Hid (∀ j, j < code (a + 1) 0 0 0 → okC n zs j = false) := adv hjb.out (fun j h1 h2 h3 => by have := (okC_in h3).1; unfold code at h1 h2; omega)
          clear hjb
          go_wp2_with fail
          go_roundw
          case rel => exact ⟨a + 1, by omega, by go_num, HJ, HBb.out⟩
          case measure => simp [intOf]; omega
    · obtain rfl : a = zs.length := by omega
      have HF := Lib.hid (find_none (n := n) (zs := zs) (adv hja.out (fun j h1 h2 h3 => by have := (okC_in h3).1; unfold code at h1; omega)))
      have HFIN := Lib.hid (show intfns.Made (findT n zs) w (.returned (.slice (some ⟨wr.heap.size, 0, none⟩) 0 0)) (wr.alloc (.cells #[] 3)) from ⟨_, rfl, by rw [HF.out]; exact (own_empty wr).mono HBa.out.size (by simp), HBa.out.alloc HBa.out.size _⟩)
      clear hja
      go_wp2_with fail
      go_ret
      exact HFIN.out
end Go.Proofs.Ytoephhhofkmgjab.finds
