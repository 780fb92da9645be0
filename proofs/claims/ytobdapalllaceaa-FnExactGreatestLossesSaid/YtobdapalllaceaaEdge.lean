/- The walks of the model's order of sets, its list of a set's voters, and its test of edges. -/
import Derived.Test.YtobdapalllaceaaSetOrd
import Derived.Test.YtobdapalllaceaaBitsL
import Derived.Test.YtobdapalllaceaaPSw
import Derived.Test.YtobdapalllaceaaOwnB
import Derived.Test.YtobdapalllaceaaWins
import Derived.Test.YtobdapalllaceaaMk
import Derived.Test.YtobdapalllaceaaWhere
import Derived.Deep.QuietTactic
import Derived.Deep.AppendLies
namespace Go.Proofs.Ytobdapalllaceaa.edge
open Go.RowKit own pp nums bitn mk setcmp setord ownb
set_option linter.unusedVariables false
set_option linter.unusedSimpArgs false

/-- A set wins, or loses, and none with one voter less, or more, does so. -/
def stepB (p : Nat → Bool) (k : Nat) (w : Bool) (i : Nat) : Bool := ((dg k i == 1) == w) && (p (k ^^^ 2 ^ i) == w)
def edgeB (p : Nat → Bool) (n : Nat) (w : Bool) (k : Nat) : Bool := (p k == w) && (List.range n).all fun i => !(stepB p k w i)
theorem edge_no {p : Nat → Bool} {n : Nat} {w : Bool} {k : Nat} (i : Nat) (hi : i < n) (h : stepB p k w i = true) : edgeB p n w k = false := by
  unfold edgeB
  rw [Bool.and_eq_false_iff]
  right
  rw [List.all_eq_false]
  exact ⟨i, List.mem_range.2 hi, by rw [h]; simp⟩
theorem edge_yes {p : Nat → Bool} {n : Nat} {w : Bool} {k : Nat} (h : ∀ i, i < n → stepB p k w i = false) : edgeB p n w k = (p k == w) := by
  unfold edgeB
  have : ((List.range n).all fun i => !(stepB p k w i)) = true := by
    rw [List.all_eq_true]
    intro i hi
    rw [h i (List.mem_range.1 hi)]; rfl
  rw [this, Bool.and_true]
set_option maxRecDepth 100000 in
set_option maxHeartbeats 4000000 in
theorem spec_bits (n k : Nat) (w : World) (hn : n ≤ 8) (hk : k < 256) :
    Calls Try.prog 130 #[.int .i64 n, .int .i64 k] w (intfns.Made (bitsL n k) w) := by
  obtain ⟨i0, hi, hz0, hz1, hz2⟩ := info_parts mk.infoInt
  go_enter Try.func130, Try.ntmps130
  have hown0 : (w.alloc (.cells #[] 3)).ownsRow w.heap.size 3 1 (.slice (some ⟨w.heap.size, 0, none⟩) 0 0) 0 [] := World.ownsRow_made (base := w.heap.size) (e := 3) (size := 1) w #[] 0 (Nat.le_refl _) (by unfold maxLen; omega) rfl
  have hb0 := below_alloc w (.cells #[] 3)
  go_wp2_with fail
  generalize w.alloc (.cells #[] 3) = w0 at *
  go_loopw [5, 6] (fun v i wr => ∃ (j : Nat) (p : Option Addr) (cp : Nat), j ≤ n ∧ i = .int .i64 j ∧ v = .slice p (bitsL j k).length cp ∧ wr.ownsRow w.heap.size 3 1 (.slice p (bitsL j k).length cp) (bitsL j k).length ((bitsL j k).map (Value.int .i64)) ∧ Below w.heap.size w wr) (fun _ i _ => n - (intOf i).toNat)
  case atStart => exact ⟨0, _, 0, Nat.zero_le _, rfl, rfl, hown0, hb0⟩
  case round =>
    clear hown0 hb0
    obtain ⟨j, p, cp, hj, rfl, rfl, hown, hbel⟩ := hrel
    have HBl := Lib.hid hbel
    have hsz := hbel.size
    have HV := Lib.hid hown.lt
    have HO := Lib.hid hown
    have hlen : (bitsL j k).length ≤ 8 := Nat.le_trans (bits_len j k) (by omega)
    by_cases hlt : j < n
    · have i1 : (0 : Int) ≤ (j : Int) := by omega
      have i2 : (j : Int) < (n : Int) := by omega
      have i3 : (j : Int) < 64 := by omega
      have hbit := dg_at k j (by omega)
      have hdl := dg_le k j
      clear hown hbel
      by_cases hd : dg k j = 1
      · have HM := Lib.hid (show bitsL (j + 1) k = bitsL j k ++ [(j : Int)] from pwh.placesTo_hit _ _ (by rw [hd]; rfl))
        rw [hd] at hbit
        clear hd hdl
        generalize bitsL j k = ms at *
        go_wp2_with (at_builtin; refine wpList_append_lies _ rfl _ _ 22 rfl w.heap.size 3 i0 (.int .i64 0) 1 8 Try.underlying22 hi hz0 hz1 hz2 rfl (by decide) (.slice p ms.length cp) ms.length (ms.map (Value.int .i64)) rfl (HO.out.alloc _) ⟨wr.heap.size, 0, none⟩ 1 1 [.int .i64 j] rfl rfl (cell_one_new _ _ _) (by simp [Value.oneCell']) (by omega) (by unfold maxLen; omega) (by omega) (by simp; omega) _ rfl ?_; intro gg cap w4 hown' hgrow hat _)
        have HO2 := Lib.hid hown'
        have HB4 := Lib.hid ((HBl.out.alloc hsz _).grown hgrow (by simp; omega) (fun g e => (HV.out g e).1))
        clear hown' hgrow hat
        go_wp2_with fail
        go_roundw
        case rel => exact ⟨j + 1, some ⟨gg, 0, none⟩, cap, by omega, by go_num, by rw [HM.out, List.length_append]; rfl, by rw [HM.out, List.map_append, List.length_append]; exact HO2.out, HB4.out⟩
        case measure => simp [intOf]; omega
      · have hd0 : dg k j = 0 := by omega
        have HM := Lib.hid (show bitsL (j + 1) k = bitsL j k from pwh.placesTo_miss _ _ (by rw [hd0]; rfl))
        rw [hd0] at hbit
        clear hd hd0 hdl
        generalize bitsL j k = ms at *
        go_wp2_with fail
        go_roundw
        case rel => exact ⟨j + 1, p, cp, by omega, by go_num, by rw [HM.out], by rw [HM.out]; exact HO.out, HBl.out⟩
        case measure => simp [intOf]; omega
    · obtain rfl : j = n := by omega
      have hR : intfns.Made (bitsL j k) w (.returned (.slice p (bitsL j k).length cp)) wr := ⟨_, rfl, OwnI.of hown, hbel⟩
      have HF := Lib.hid hR
      clear hR hown hbel HO
      generalize bitsL j k = ms at *
      go_wp2_with fail
      go_ret
      exact HF.out
set_option maxRecDepth 100000 in
set_option maxHeartbeats 4000000 in
theorem spec_before (a : Option Addr) (xs : List Int) (c : Nat) (a' : Option Addr) (ys : List Int) (c' : Nat) (w : World) (hr : ints.Reads .i64 w a xs) (hq : ints.Reads .i64 w a' ys) (hn : xs.length ≤ 1048576) (hm : ys.length ≤ 1048576) :
    Calls Try.prog 173 #[.slice a xs.length c, .slice a' ys.length c'] w (fun e w' => e = .returned (.bool (befB xs ys)) ∧ ∃ m, w' = w.drewN m) := by
  obtain ⟨r, hrr⟩ : ∃ r, befB xs ys = r := ⟨_, rfl⟩
  by_cases hl : xs.length = ys.length
  · have g0 : ((xs.length : Int) != (ys.length : Int)) = false := by rw [bne_eq_false_iff_eq]; omega
    have HR := Lib.hid (show decide (lexC (xs.drop 0) (ys.drop 0) < 0) = r by rw [← hrr]; unfold befB setC; rw [if_pos (cmp_zero.2 (by omega))]; rfl)
    have HL := Lib.hid hl
    rw [hrr]
    clear hrr hl
    go_enter Try.func173, Try.ntmps173
    go_wp2_with fail
    go_loopw [5] (fun i wr => ∃ k : Nat, k ≤ xs.length ∧ i = .int .i64 k ∧ Hid (decide (lexC (xs.drop k) (ys.drop k) < 0) = r) ∧ ∃ m, wr = w.drewN m) (fun i _ => xs.length - (intOf i).toNat)
    case atStart => exact ⟨0, Nat.zero_le _, rfl, HR, 0, rfl⟩
    case round =>
      clear HR
      obtain ⟨k, hk, rfl, hx, m, rfl⟩ := hrel
      have HM := Lib.hid (show ∀ n, ∃ q, (w.drewN m).drewN n = w.drewN q from fun n => ⟨_, World.drewN_drewN _ _ _⟩)
      have HM2 := Lib.hid (show ∀ n n2, ∃ q, ((w.drewN m).drewN n).drewN n2 = w.drewN q from fun n n2 => by obtain ⟨q, hq⟩ := HM.out n; rw [hq]; exact ⟨_, World.drewN_drewN _ _ _⟩)
      by_cases hlt : k < xs.length
      · obtain ⟨b, off, rfl, hb, hc⟩ := hr.at hlt
        have hly : k < ys.length := by have := HL.out; omega
        obtain ⟨b', off', rfl, hb', hc'⟩ := hq.at hly
        replace hc : (w.drewN m).cell? ⟨b, off + k, none⟩ = some (.int .i64 (xs.getD k 0)) := hc
        replace hc' : (w.drewN m).cell? ⟨b', off' + k, none⟩ = some (.int .i64 (ys.getD k 0)) := hc'
        have i1 : (0 : Int) ≤ (k : Int) := by omega
        have i2 : (k : Int) < (xs.length : Int) := by omega
        have i3 : (k : Int) < (ys.length : Int) := by have := HL.out; omega
        have hd := hx.out
        rw [lex_drop hlt hly] at hd
        clear hx
        by_cases he : xs.getD k 0 = ys.getD k 0
        · have g1 : (xs.getD k 0 != ys.getD k 0) = false := by rw [bne_eq_false_iff_eq]; exact he
          rw [if_pos (cmp_zero.2 he)] at hd
          have HD := Lib.hid hd
          clear hd he
          generalize xs.getD k 0 = x at *
          generalize ys.getD k 0 = y at *
          generalize w.drewN m = wm at *
          go_wp2_with fail
          go_quiet (fail)
          go_wp2_with fail
          go_roundw
          case rel => exact ⟨k + 1, by omega, by go_num, HD, HM.out _⟩
          case measure => simp [intOf]; omega
        · have g1 : (xs.getD k 0 != ys.getD k 0) = true := by rw [bne_iff_ne]; exact he
          rw [if_neg (fun e => he (cmp_zero.1 e))] at hd
          have hd2 : decide (xs.getD k 0 < ys.getD k 0) = r := by
            rw [← hd, Bool.eq_iff_iff, decide_eq_true_iff, decide_eq_true_iff]
            unfold cmpI
            split
            · constructor <;> intro <;> omega
            · split
              · constructor <;> intro <;> omega
              · constructor <;> intro <;> omega
          clear hd he
          generalize xs.getD k 0 = x at *
          generalize ys.getD k 0 = y at *
          generalize w.drewN m = wm at *
          go_wp2_with fail
          go_quiet (fail)
          go_wp2_with fail
          go_quiet (fail)
          go_wp2_with fail
          go_ret
          exact ⟨rfl, HM2.out _ _⟩
      · have hkk : k = xs.length := by omega
        have hd := hx.out
        rw [lex_done hkk, if_neg (by have := HL.out; omega)] at hd
        clear hx
        have hd : r = false := by rw [← hd]; rfl
        subst hkk
        subst hd
        go_wp2_with fail
        go_ret
        exact ⟨rfl, m, rfl⟩
  · have g0 : ((xs.length : Int) != (ys.length : Int)) = true := by rw [bne_iff_ne]; omega
    have hd : decide (xs.length < ys.length) = r := by
      rw [← hrr]
      unfold befB setC
      rw [if_neg (fun e => hl (by have := cmp_zero.1 e; omega)), Bool.eq_iff_iff, decide_eq_true_iff, decide_eq_true_iff]
      unfold cmpI
      split
      · constructor <;> intro <;> omega
      · split
        · constructor <;> intro <;> omega
        · constructor <;> intro <;> omega
    rw [hrr]
    clear hrr hl
    have HD := Lib.hid hd
    clear hd
    go_enter Try.func173, Try.ntmps173
    go_wp2_with fail
    go_ret
    exact ⟨congrArg (fun b => Ending.returned (.bool b)) HD.out, 0, rfl⟩
set_option maxRecDepth 100000 in
set_option maxHeartbeats 4000000 in
theorem spec_edge (n N : Nat) (g c : Nat) (p : Nat → Bool) (k : Nat) (wn : Bool) (w : World) (hn : n ≤ 8) (hN : 2 ^ n = N) (hk : k < N) (hc : ∀ j, j < N → w.cell? ⟨g, j, none⟩ = some (.bool (p j))) :
    Calls Try.prog 128 #[.int .i64 n, .slice (some ⟨g, 0, none⟩) N c, .int .i64 k, .bool wn] w (fun e w' => e = .returned (.bool (edgeB p n wn k)) ∧ w' = w) := by
  have HN := Lib.hid hN
  have hN2 : N ≤ 256 := by rw [← hN]; exact (bits8.pow8 hn).2
  have HC := Lib.hid hc
  have ck := hc k hk
  have i1 : (0 : Int) ≤ (k : Int) := by omega
  have i2 : (k : Int) < (N : Int) := by omega
  clear hN hc
  go_enter Try.func128, Try.ntmps128
  go_wp2_with fail
  go_loop [9] (fun i => ∃ j : Nat, j ≤ n ∧ i = .int .i64 j ∧ Hid (∀ q, q < j → stepB p k wn q = false)) (fun i => n - (intOf i).toNat)
  case atStart => exact ⟨0, Nat.zero_le _, rfl, Lib.hid (fun q hq => by omega)⟩
  case round =>
    obtain ⟨j, hj, rfl, hq⟩ := hrel
    by_cases hlt : j < n
    · have j1 : (0 : Int) ≤ (j : Int) := by omega
      have j2 : (j : Int) < (n : Int) := by omega
      have j3 : (j : Int) < 64 := by omega
      have hbit := dg_at k j (by omega)
      have hdl := dg_le k j
      have hk2 : k ^^^ 2 ^ j < N := by rw [← HN.out] at hk ⊢; exact Nat.xor_lt_two_pow hk (Nat.pow_lt_pow_right (by omega) hlt)
      have hx := xor_nat k (2 ^ j) (by omega) (by have := Nat.pow_le_pow_right (n := 2) (by omega) (show j ≤ 8 by omega); omega)
      have c2 := HC.out _ hk2
      have HS := Lib.hid (show stepB p k wn j = (((dg k j == 1) == wn) && (p (k ^^^ 2 ^ j) == wn)) from rfl)
      have HJ := Lib.hid (fun (h : stepB p k wn j = false) (q : Nat) (h2 : q < j + 1) => show stepB p k wn q = false from by
        by_cases e : q = j
        · rw [e]; exact h
        · exact hq.out q (by omega))
      have HNO := Lib.hid (fun (h : stepB p k wn j = true) => edge_no (p := p) (w := wn) (k := k) j hlt h)
      obtain ⟨M, hM⟩ : ∃ M : Nat, 2 ^ j = M := ⟨_, rfl⟩
      have h2p : (2 : Int) ^ j = (M : Int) := by rw [← hM]; simp
      rw [h2p] at hbit
      have hMb : M ≤ 256 := by rw [← hM]; have := Nat.pow_le_pow_right (n := 2) (by omega) (show j ≤ 8 by omega); omega
      rw [hM] at hx c2 HS hk2
      obtain ⟨X, hX⟩ : ∃ X : Nat, k ^^^ M = X := ⟨_, rfl⟩
      rw [hX] at hx c2 HS hk2
      have k1 : (0 : Int) ≤ (X : Int) := by omega
      have k2 : (X : Int) < (N : Int) := by omega
      clear hq hM hX hk2
      have hdd : (dg k j == 1) = decide (dg k j = 1) := by rw [Bool.eq_iff_iff]; simp
      cases wn
      · by_cases hd : dg k j = 1
        · rw [hd] at hbit HS
          have HK := Lib.hid (HJ.out (by rw [HS.out]; rfl))
          clear hdd HS HJ HNO hd hdl
          go_wp2_with fail
          go_round
          case rel => exact ⟨j + 1, by omega, by go_num, HK⟩
          case measure => simp [intOf]; omega
        · have hd0 : dg k j = 0 := by omega
          rw [hd0] at hbit HS
          cases hp : p X
          · rw [hp] at c2 HS
            have HK := Lib.hid (HNO.out (by rw [HS.out]; rfl))
            clear hdd HS HJ HNO hd hdl hp hd0
            go_wp2_with fail
            go_ret
            exact ⟨by rw [HK.out]; rfl, rfl⟩
          · rw [hp] at c2 HS
            have HK := Lib.hid (HJ.out (by rw [HS.out]; rfl))
            clear hdd HS HJ HNO hd hdl hp hd0
            go_wp2_with fail
            go_round
            case rel => exact ⟨j + 1, by omega, by go_num, HK⟩
            case measure => simp [intOf]; omega
      · by_cases hd : dg k j = 1
        · rw [hd] at hbit HS
          cases hp : p X
          · rw [hp] at c2 HS
            have HK := Lib.hid (HJ.out (by rw [HS.out]; rfl))
            clear hdd HS HJ HNO hd hdl hp
            go_wp2_with fail
            go_round
            case rel => exact ⟨j + 1, by omega, by go_num, HK⟩
            case measure => simp [intOf]; omega
          · rw [hp] at c2 HS
            have HK := Lib.hid (HNO.out (by rw [HS.out]; rfl))
            clear hdd HS HJ HNO hd hdl hp
            go_wp2_with fail
            go_ret
            exact ⟨by rw [HK.out]; rfl, rfl⟩
        · have hd0 : dg k j = 0 := by omega
          rw [hd0] at hbit HS
          have HK := Lib.hid (HJ.out (by rw [HS.out]; rfl))
          clear hdd HS HJ HNO hd hdl hd0
          go_wp2_with fail
          go_round
          case rel => exact ⟨j + 1, by omega, by go_num, HK⟩
          case measure => simp [intOf]; omega
    · obtain rfl : j = n := by omega
      have HK := Lib.hid (edge_yes (p := p) (w := wn) (k := k) hq.out)
      clear hq
      cases hp : p k
      · rw [hp] at ck HK
        cases wn
        · clear hp
          go_wp2_with fail
          go_ret
          exact ⟨by rw [HK.out]; rfl, rfl⟩
        · clear hp
          go_wp2_with fail
          go_ret
          exact ⟨by rw [HK.out]; rfl, rfl⟩
      · rw [hp] at ck HK
        cases wn
        · clear hp
          go_wp2_with fail
          go_ret
          exact ⟨by rw [HK.out]; rfl, rfl⟩
        · clear hp
          go_wp2_with fail
          go_ret
          exact ⟨by rw [HK.out]; rfl, rfl⟩
end Go.Proofs.Ytobdapalllaceaa.edge
