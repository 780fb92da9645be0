/- The walks of IsGame: the model's and the program's. -/
import Derived.Test.YtcklehfcpengoaaMoves
import Derived.Test.YtcklehfcpengoaaTab
import Derived.BigQuiet
namespace Go.Proofs.Ytcklehfcpengoaa.gamet
open Go.RowKit own pp nums range tab bitw dig moves5
set_option linter.unusedVariables false
set_option linter.unusedSimpArgs false

/-- The falls in the first m bits. -/
def falls (zs : List Int) : Nat → Nat
  | 0 => 0
  | b + 1 => falls zs b + dnTo zs b zs.length
def gameB (n : Nat) (zs : List Int) : Bool := decide (falls zs n = 0) && (decide (zs.getD 0 0 = 0) && decide (zs.getD (zs.length - 1) 0 = 1))
theorem falls_le (zs : List Int) (m : Nat) : falls zs m ≤ m * zs.length := by
  induction m with
  | zero => simp [falls]
  | succ m ih => rw [falls, Nat.succ_mul]; have := dn_le zs m zs.length; omega
theorem dn_zero (zs : List Int) (b K : Nat) : dnTo zs b K = 0 ↔ ∀ k, k < K → kd zs b k ≠ -1 := by
  induction K with
  | zero => simp [dnTo]
  | succ K ih =>
    constructor
    · intro h k hk
      by_cases e : kd zs b K = -1
      · rw [dn_hit e] at h; omega
      · rw [dn_miss e] at h
        by_cases e2 : k = K
        · subst e2; exact e
        · exact ih.1 h k (by omega)
    · intro h
      rw [dn_miss (h K (by omega))]
      exact ih.2 fun k hk => h k (by omega)
theorem falls_zero (zs : List Int) (m : Nat) : falls zs m = 0 ↔ ∀ b, b < m → ∀ k, k < zs.length → kd zs b k ≠ -1 := by
  induction m with
  | zero => simp [falls]
  | succ m ih =>
    rw [falls]
    constructor
    · intro h b hb
      by_cases e : b = m
      · subst e; exact (dn_zero _ _ _).1 (by omega)
      · exact ih.1 (by omega) b (by omega)
    · intro h
      have h1 := ih.2 fun b hb => h b (by omega)
      have h2 := (dn_zero zs m zs.length).2 (h m (by omega))
      omega
theorem game_bad {n : Nat} {zs : List Int} {b k : Nat} (hb : b < n) (hk : k < zs.length) (h : kd zs b k = -1) : gameB n zs = false := by
  unfold gameB
  rw [decide_eq_false (fun e => (falls_zero zs n).1 e b hb k hk h), Bool.false_and]
theorem same_all : ∀ n : Fin 5, ∀ b : Fin 4, ∀ k : Fin 16, b.val < n.val ∧ k.val < 2 ^ n.val ∧ k.val / 2 ^ b.val % 2 = 1 → (k.val ||| 2 ^ b.val) = k.val ∧ 2 ^ b.val ≤ 8 := by decide +kernel
theorem same {n b k : Nat} (h4 : n ≤ 4) (hb : b < n) (hk : k < 2 ^ n) (h : k / 2 ^ b % 2 = 1) : (k ||| 2 ^ b) = k ∧ 2 ^ b ≤ 8 :=
  same_all ⟨n, by omega⟩ ⟨b, by omega⟩ ⟨k, Nat.lt_of_lt_of_le hk (mk.pow4 h4).2⟩ ⟨hb, hk, h⟩
set_option maxRecDepth 100000 in
set_option maxHeartbeats 4000000 in
theorem spec_game (n : Nat) (a : Option Addr) (zs : List Int) (c : Nat) (w : World) (hr : ints.Reads .i64 w a zs) (h1 : 1 ≤ n) (hk : tab.tabB n zs = true) :
    Calls Try.prog 70 #[.int .i64 n, .slice a zs.length c] w (fun e w' => e = .returned (.bool (gameB n zs)) ∧ ∃ m, w' = w.drewN m) := by
  obtain ⟨m0, he, h4, hpw, h16, hrg⟩ := tab_nat hk
  obtain rfl : n = m0 := by omega
  have HA := Lib.hid (tab_at hk)
  have HL := Lib.hid hpw
  have h0 : 1 ≤ zs.length := by rw [hpw]; exact Nat.one_le_two_pow
  clear hk hpw hrg he
  have HG := Lib.hid (show gameB n zs = (decide (falls zs n = 0) && (decide (zs.getD 0 0 = 0) && decide (zs.getD (zs.length - 1) 0 = 1))) from rfl)
  have HBAD := Lib.hid (fun b k (hb : b < n) (hk : k < zs.length) (h : kd zs b k = -1) => game_bad hb hk h)
  generalize gameB n zs = G at *
  go_enter Try.func70, Try.ntmps70
  go_wp2_with fail
  go_loopw [5] (fun i wr => ∃ k : Nat, k ≤ zs.length ∧ i = .int .i64 k ∧ Hid (∀ k', k' < k → ∀ b, b < n → kd zs b k' ≠ -1) ∧ ∃ m, wr = w.drewN m) (fun i _ => zs.length - (intOf i).toNat)
  case atStart => exact ⟨0, Nat.zero_le _, rfl, Lib.hid (fun k' h => absurd h (by omega)), 0, rfl⟩
  case round =>
    obtain ⟨k, hk, rfl, HN, m, rfl⟩ := hrel
    by_cases hlt : k < zs.length
    · have hk16 : k < 16 := by omega
      have i1 : (0 : Int) ≤ (k : Int) := by omega
      have i2 : (k : Int) < (zs.length : Int) := by omega
      go_wp2_with fail
      go_loopw [6] (fun j wq => ∃ b : Nat, b ≤ n ∧ j = .int .i64 b ∧ Hid (∀ b', b' < b → kd zs b' k ≠ -1) ∧ ∃ m, wq = w.drewN m) (fun j _ => n - (intOf j).toNat)
      case atStart => exact ⟨0, Nat.zero_le _, rfl, Lib.hid (fun b' h => absurd h (by omega)), m, rfl⟩
      case round =>
        obtain ⟨b, hb, rfl, HM0, m, rfl⟩ := hrel
        by_cases hbn : b < n
        · have hb4 : b ≤ 3 := by omega
          have HM := Lib.hid (show ∀ n, ∃ q, (w.drewN m).drewN n = w.drewN q from fun n => ⟨_, World.drewN_drewN _ _ _⟩)
          have HST := Lib.hid (fun (h : kd zs b k ≠ -1) => show ∀ b', b' < b + 1 → kd zs b' k ≠ -1 from fun b' hb' => by
            by_cases e : b' = b
            · subst e; exact h
            · exact HM0.out b' (by omega))
          have HBD := Lib.hid (fun (h : kd zs b k = -1) => HBAD.out b k hbn hlt h)
          have hrr : ints.Reads .i64 (w.drewN m) a zs := hr
          obtain ⟨bk, off, rfl, hbk, hc⟩ := hrr.at hlt
          obtain ⟨N, hN⟩ : ∃ N : Nat, N = 2 ^ b := ⟨_, rfl⟩
          have hN2 : (2 : Int) ^ b = (N : Int) := by rw [hN]; simp
          rcases Nat.mod_two_eq_zero_or_one (k / 2 ^ b) with hd | hd
          · have ho := other (k := k) h4 hbn (by have := HL.out; omega) hd
            have HK := Lib.hid (show kd zs b k = zs.getD (k + N) 0 - zs.getD k 0 by unfold kd; rw [if_neg (by omega), hN])
            rw [← hN] at ho
            clear hN hd
            have hlt2 : k + N < zs.length := by have := HL.out; omega
            have hor : Go.bits BinOp.or IntKind.i64 (k : Int) (N : Int) = ((k + N : Nat) : Int) := by rw [or16 (by omega) (by omega), ho.2.1]
            have hx := HA.out k hlt
            have hy := HA.out (k + N) hlt2
            obtain ⟨bk2, off2, e2, hbk2, hc2⟩ := hrr.at hlt2
            cases e2
            obtain ⟨j, hj⟩ : ∃ j : Nat, j = k + N := ⟨_, rfl⟩
            rw [← hj] at hor hc2 hlt2 hy HK
            have i3 : (0 : Int) ≤ (j : Int) := by omega
            have i4 : (j : Int) < (zs.length : Int) := by omega
            have hN8 : N ≤ 8 := ho.2.2
            clear ho hj hrr
            rw [HK.out] at HST HBD
            clear HK
            generalize w.drewN m = wm at *
            generalize zs.getD k 0 = x at *
            generalize zs.getD j 0 = y at *
            rcases hx with rfl | rfl
            · have NEXT := Lib.hid (HST.out (by rcases hy with rfl | rfl <;> decide))
              rcases hy with rfl | rfl
              all_goals (
                go_wp2_with fail
                go_quiet (fail)
                go_wp2_with fail
                go_roundw
                case rel => exact ⟨b + 1, by omega, by go_num, NEXT.out, by first | exact HM.out _ | (rw [World.drewN_drewN]; exact HM.out _)⟩
                case measure => simp [intOf]; omega)
            · rcases hy with rfl | rfl
              · have HF := Lib.hid (HBD.out (by decide))
                go_wp2_with fail
                go_quiet (fail)
                go_wp2_with fail
                go_ret
                exact ⟨by rw [HF.out]; rfl, by first | exact HM.out _ | (rw [World.drewN_drewN]; exact HM.out _)⟩
              · have NEXT := Lib.hid (HST.out (by decide))
                go_wp2_with fail
                go_quiet (fail)
                go_wp2_with fail
                go_roundw
                case rel => exact ⟨b + 1, by omega, by go_num, NEXT.out, by first | exact HM.out _ | (rw [World.drewN_drewN]; exact HM.out _)⟩
                case measure => simp [intOf]; omega
          · have ho := same (k := k) h4 hbn (by have := HL.out; omega) hd
            have NEXT := Lib.hid (HST.out (by unfold kd; rw [if_pos hd]; decide))
            rw [← hN] at ho
            clear hN hd hrr
            have hor : Go.bits BinOp.or IntKind.i64 (k : Int) (N : Int) = (k : Int) := by rw [or16 (by omega) (by omega), ho.1]
            have hN8 : N ≤ 8 := ho.2
            clear ho
            generalize w.drewN m = wm at *
            generalize zs.getD k 0 = x at *
            go_wp2_with fail
            go_quiet (fail)
            go_wp2_with fail
            go_roundw
            case rel => exact ⟨b + 1, by omega, by go_num, NEXT.out, by first | exact HM.out _ | (rw [World.drewN_drewN]; exact HM.out _)⟩
            case measure => simp [intOf]; omega
        · obtain rfl : b = n := by omega
          go_wp2_with fail
          go_roundw
          case rel => exact ⟨k + 1, by omega, by go_num, Lib.hid (fun k' hk' b' hb' => by
            by_cases e : k' = k
            · subst e; exact HM0.out b' hb'
            · exact HN.out k' (by omega) b' hb'), m, rfl⟩
          case measure => simp [intOf]; omega
    · obtain rfl : k = zs.length := by omega
      have hf : falls zs n = 0 := (falls_zero zs n).2 fun b hb k hk => HN.out k hk b hb
      have HR := Lib.hid (show G = (decide (zs.getD 0 0 = 0) && decide (zs.getD (zs.length - 1) 0 = 1)) by rw [HG.out, decide_eq_true hf, Bool.true_and])
      have hx := HA.out 0 (by omega)
      have hy := HA.out (zs.length - 1) (by omega)
      have hrr : ints.Reads .i64 (w.drewN m) a zs := hr
      obtain ⟨bk, off, rfl, hbk, hc⟩ := hrr.at (k := 0) (by omega)
      obtain ⟨bk2, off2, e2, hbk2, hc2⟩ := hrr.at (k := zs.length - 1) (by omega)
      cases e2
      obtain ⟨j, hj⟩ : ∃ j : Nat, j = zs.length - 1 := ⟨_, rfl⟩
      rw [← hj] at hc2 HR hy
      rw [Nat.add_zero] at hc
      have e1 : IntKind.i64.wrap ((zs.length : Int) - 1) = (j : Int) := by rw [IntWalk.i64_in _ (by omega)]; omega
      have i1 : (0 : Int) < (zs.length : Int) := by omega
      have i3 : (0 : Int) ≤ (j : Int) := by omega
      have i4 : (j : Int) < (zs.length : Int) := by omega
      have j3 : j < zs.length := by omega
      clear hj hrr hf
      generalize zs.getD 0 0 = x at *
      generalize zs.getD j 0 = y at *
      rcases hx with rfl | rfl
      · rcases hy with rfl | rfl
        all_goals (
          go_wp2_with fail
          go_ret
          exact ⟨by rw [HR.out]; rfl, m, rfl⟩)
      · go_wp2_with fail
        go_ret
        exact ⟨by rw [HR.out]; rfl, m, rfl⟩
set_option maxRecDepth 100000 in
set_option maxHeartbeats 4000000 in
theorem spec_small (n : Int) (a : Option Addr) (zs : List Int) (c : Nat) (w : World) (h : n < 1) :
    Calls Try.prog 38 #[.int .i64 n, .slice a zs.length c] w (RetBB false false w) := by
  go_enter Try.func38, Try.ntmps38
  go_wp2_with fail
  go_ret2
  exact ⟨rfl, Below.refl _ _⟩
set_option maxRecDepth 100000 in
set_option maxHeartbeats 4000000 in
theorem spec_no (n : Int) (a : Option Addr) (zs : List Int) (c : Nat) (w : World) (hr : ints.Reads .i64 w a zs) (h : 1 ≤ n) (hk : tab.tabB n zs = false) :
    Calls Try.prog 38 #[.int .i64 n, .slice a zs.length c] w (RetBB false false w) := by
  have HT := Lib.hid (fun (wa : World) (hb : Below w.heap.size w wa) => tab.spec_tab n a zs c wa (hr.below hb) false (Lib.hid hk))
  clear hr hk
  go_enter Try.func38, Try.ntmps38
  go_wp2_with fail
  refine (HT.out _ (Below.refl _ _)).mono ?_
  rintro e w' ⟨rfl, m, rfl⟩
  go_wp2_with fail
  go_ret2
  exact ⟨rfl, ints.below_drewN (Below.refl _ _) _⟩
set_option maxRecDepth 100000 in
set_option maxHeartbeats 4000000 in
theorem spec_yes (n : Nat) (a : Option Addr) (zs : List Int) (c : Nat) (w : World) (hr : ints.Reads .i64 w a zs) (h1 : 1 ≤ n) (hk : tab.tabB n zs = true) :
    Calls Try.prog 38 #[.int .i64 n, .slice a zs.length c] w (RetBB (gameB n zs) true w) := by
  have HT := Lib.hid (fun (wa : World) (hb : Below w.heap.size w wa) => tab.spec_tab n a zs c wa (hr.below hb) true (Lib.hid hk))
  have HW := Lib.hid (fun (wa : World) (hb : Below w.heap.size w wa) => spec_game n a zs c wa (hr.below hb) h1 hk)
  clear hr hk
  have hn1 : ¬ ((n : Int) < 1) := by omega
  go_enter Try.func38, Try.ntmps38
  go_wp2_with fail
  refine (HT.out _ (Below.refl _ _)).mono ?_
  rintro e w' ⟨rfl, m, rfl⟩
  go_wp2_with fail
  have hb1 := ints.below_drewN (Below.refl w.heap.size w) m
  refine (HW.out _ hb1).mono ?_
  rintro e w' ⟨rfl, m2, rfl⟩
  have HB := Lib.hid (ints.below_drewN hb1 m2)
  clear hb1
  rw [World.drewN_drewN] at HB
  go_wp2_with fail
  go_ret2
  exact ⟨rfl, HB.out⟩
set_option maxRecDepth 100000 in
set_option maxHeartbeats 4000000 in
theorem impl_small (n : Int) (a : Option Addr) (zs : List Int) (c : Nat) (w : World) (h : n < 1) :
    Calls Try.prog 39 #[.int .i64 n, .slice a zs.length c] w (RetBB false false w) := by
  go_enter Try.func39, Try.ntmps39
  go_wp2_with fail
  go_ret2
  exact ⟨rfl, Below.refl _ _⟩
set_option maxRecDepth 100000 in
set_option maxHeartbeats 4000000 in
theorem impl_no (n : Int) (a : Option Addr) (zs : List Int) (c : Nat) (w : World) (hr : ints.Reads .i64 w a zs) (h : 1 ≤ n) (hk : tab.tabB n zs = false) :
    Calls Try.prog 39 #[.int .i64 n, .slice a zs.length c] w (RetBB false false w) := by
  have HT := Lib.hid (fun (wa : World) (hb : Below w.heap.size w wa) => tab.impl_tab n a zs c wa (hr.below hb) false (Lib.hid hk))
  clear hr hk
  go_enter Try.func39, Try.ntmps39
  go_wp2_with fail
  refine (HT.out _ (Below.refl _ _)).mono ?_
  rintro e w' ⟨rfl, m, rfl⟩
  go_wp2_with fail
  go_ret2
  exact ⟨rfl, ints.below_drewN (Below.refl _ _) _⟩
set_option maxRecDepth 100000 in
set_option maxHeartbeats 4000000 in
theorem impl_yes (n : Nat) (a : Option Addr) (zs : List Int) (c : Nat) (w : World) (hr : ints.Reads .i64 w a zs) (h1 : 1 ≤ n) (hk : tab.tabB n zs = true) :
    Calls Try.prog 39 #[.int .i64 n, .slice a zs.length c] w (RetBB (gameB n zs) true w) := by
  have HT := Lib.hid (fun (wa : World) (hb : Below w.heap.size w wa) => tab.impl_tab n a zs c wa (hr.below hb) true (Lib.hid hk))
  have HMV := Lib.hid (fun (b : Nat) (wa : World) (hb : Below w.heap.size w wa) (hbn : b < n) => impl_moves n b a zs c wa (hr.below hb) hk hbn)
  obtain ⟨m0, he, h4, hpw, h16, hrg⟩ := tab_nat hk
  obtain rfl : n = m0 := by omega
  have HA := Lib.hid (tab_at hk)
  have HL := Lib.hid hpw
  have h0 : 1 ≤ zs.length := by rw [hpw]; exact Nat.one_le_two_pow
  clear hk hpw hrg he
  have HG := Lib.hid (show gameB n zs = (decide (falls zs n = 0) && (decide (zs.getD 0 0 = 0) && decide (zs.getD (zs.length - 1) 0 = 1))) from rfl)
  generalize gameB n zs = G at *
  have hn1 : ¬ ((n : Int) < 1) := by omega
  go_enter Try.func39, Try.ntmps39
  go_wp2_with fail
  refine (HT.out _ (Below.refl _ _)).mono ?_
  rintro e w' ⟨rfl, m, rfl⟩
  go_wp2_with fail
  have HB := Lib.hid (ints.below_drewN (Below.refl w.heap.size w) m)
  have hrr : ints.Reads .i64 (w.drewN m) a zs := hr
  have HR0 := Lib.hid hrr
  clear hrr hr
  generalize w.drewN m = w1 at *
  go_loop [6, 19] (fun s i => ∃ b : Nat, b ≤ n ∧ i = .int .i64 b ∧ s = .int .i64 ((falls zs b : Nat) : Int)) (fun _ i => n - (intOf i).toNat)
  case atStart => exact ⟨0, Nat.zero_le _, rfl, rfl⟩
  case round =>
    obtain ⟨b, hb, rfl, rfl⟩ := hrel
    have hfl := falls_le zs b
    by_cases hbn : b < n
    · have HC := Lib.hid (HMV.out b w1 HB.out hbn)
      have HS := Lib.hid (show falls zs (b + 1) = falls zs b + dnTo zs b zs.length from rfl)
      have hd := dn_le zs b zs.length
      have hp : b * zs.length ≤ 4 * 16 := Nat.mul_le_mul (by omega) h16
      generalize falls zs b = F at *
      generalize dnTo zs b zs.length = D at *
      generalize upTo zs b zs.length = U at *
      go_wp2_with fail
      refine HC.out.mono ?_
      rintro e w' ⟨rfl, rfl⟩
      go_wp2_with fail
      go_round
      case rel => exact ⟨b + 1, by omega, by go_num, by rw [HS.out]; go_num⟩
      case measure => simp [intOf]; omega
    · obtain rfl : b = n := by omega
      have HR := Lib.hid HG.out
      have hx := HA.out 0 (by omega)
      have hy := HA.out (zs.length - 1) (by omega)
      obtain ⟨bk, off, rfl, hbk, hc⟩ := HR0.out.at (k := 0) (by omega)
      obtain ⟨bk2, off2, e2, hbk2, hc2⟩ := HR0.out.at (k := zs.length - 1) (by omega)
      cases e2
      obtain ⟨j, hj⟩ : ∃ j : Nat, j = zs.length - 1 := ⟨_, rfl⟩
      rw [← hj] at hc2 HR hy
      rw [Nat.add_zero] at hc
      have e1 : IntKind.i64.wrap ((zs.length : Int) - 1) = (j : Int) := by rw [IntWalk.i64_in _ (by omega)]; omega
      have i1 : (0 : Int) < (zs.length : Int) := by omega
      have i3 : (0 : Int) ≤ (j : Int) := by omega
      have i4 : (j : Int) < (zs.length : Int) := by omega
      have j3 : j < zs.length := by omega
      clear hj HG
      generalize zs.getD 0 0 = x at *
      generalize zs.getD j 0 = y at *
      generalize falls zs b = F at *
      by_cases hF : F = 0
      · subst hF
        rcases hx with rfl | rfl
        · rcases hy with rfl | rfl
          all_goals (
            go_wp2_with fail
            go_ret2
            exact ⟨by rw [HR.out]; rfl, HB.out⟩)
        · go_wp2_with fail
          go_ret2
          exact ⟨by rw [HR.out]; rfl, HB.out⟩
      · have g0 : ¬ ((F : Int) = 0) := by omega
        have HR2 := Lib.hid (show G = false by rw [HR.out, decide_eq_false hF, Bool.false_and])
        clear HR hF
        go_wp2_with fail
        go_ret2
        exact ⟨by rw [HR2.out]; rfl, HB.out⟩
end Go.Proofs.Ytcklehfcpengoaa.gamet
