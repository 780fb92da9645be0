/- The walks of a table with its bits exchanged: the model's and the program's. -/
import Derived.Test.YtchlkcmgonbcjaaTab
import Derived.Test.YtchlkcmgonbcjaaFrom
import Derived.Test.YtchlkcmgonbcjaaBits
import Derived.Test.YtchlkcmgonbcjaaPermP
import Derived.BigQuiet
import Derived.StillTailTactics
namespace Go.Proofs.Ytchlkcmgonbcjaa.permw
open Go.RowKit own pp nums range tab fromw bitw has permp
set_option linter.unusedVariables false
set_option linter.unusedSimpArgs false

open mk (mk_length mk_succ mk_congr pow4)
theorem infoBool : (Try.prog.info? 4).map (fun i => (i.zero, i.size, i.bytes)) = some (some (.bool false), 1, 1) := by kernel_rfl
/-- The table with its bits exchanged. -/
def pe (zs to : List Int) (n k : Nat) : Int := zs.getD (srcS (nats to) k n) 0
def permT (zs to : List Int) (n : Nat) : List Int := mk.mk (pe zs to n) zs.length
theorem or_at : ∀ p q : Fin 16, Go.bits BinOp.or IntKind.i64 ((p.val : Nat) : Int) ((q.val : Nat) : Int) = ((p.val ||| q.val : Nat) : Int) := by decide +kernel
theorem or16 {p q : Nat} (hp : p < 16) (hq : q < 16) : Go.bits BinOp.or IntKind.i64 (p : Int) (q : Int) = ((p ||| q : Nat) : Int) := or_at ⟨p, hp⟩ ⟨q, hq⟩
/-- A step of the sum. -/
theorem src_step {n : Nat} (h4 : n ≤ 4) {to : List Int} (h : orderB n to = true) {k j : Nat} (hk : k < 2 ^ n) (hj : j < n) :
    ∃ s N d : Nat, to.getD j 0 = (s : Int) ∧ s ≤ 3 ∧ (2 : Int) ^ s = (N : Int) ∧ N ≤ 8 ∧ k / 2 ^ j % 2 = d ∧ (d = 0 ∨ d = 1) ∧ srcS (nats to) k (j + 1) = srcS (nats to) k j + d * N ∧ srcO (nats to) k (j + 1) = srcO (nats to) k j ||| d * N ∧ srcS (nats to) k (j + 1) < 16 ∧ srcO (nats to) k j < 16 ∧ s < n := by
  have hf := ok_fit h j (by rw [perm_len h]; exact hj)
  have h16 := (pow4 h4).2
  have h1 := src_ok h4 h hk (show j + 1 ≤ n by omega)
  have h2 := src_ok h4 h hk (show j ≤ n by omega)
  refine ⟨(to.getD j 0).toNat, 2 ^ (to.getD j 0).toNat, k / 2 ^ j % 2, by omega, by omega, by simp, ?_, rfl, by omega, ?_, ?_, by omega, by rw [h2.1]; omega, by omega⟩
  · exact Nat.le_trans (Nat.pow_le_pow_right (by omega) (show (to.getD j 0).toNat ≤ 3 by omega)) (by decide)
  · rw [srcS, nats_getD]
  · rw [srcO, nats_getD]
theorem dig_any (k i : Nat) (w : World) (hk : k < 16) (hi : i ≤ 8) :
    Calls Try.prog 51 #[.int .i64 k, .int .i64 i] w (fun e w' => e = .returned (.int .i64 ((k / 2 ^ i % 2 : Nat) : Int)) ∧ w' = w) := by
  have hbit := bit_at k i hk
  generalize k / 2 ^ i % 2 = d at *
  go_enter Try.func51, Try.ntmps51
  go_wp2_with fail
  go_ret
  exact ⟨rfl, rfl⟩
set_option maxHeartbeats 1000000 in
theorem order_len_w (n : Nat) (a' : Option Addr) (to : List Int) (c' : Nat) (w : World) (h4 : n ≤ 4) (hl : to.length ≠ n) :
    Calls Try.prog 60 #[.slice a' to.length c', .int .i64 n] w (RetB false w) := by
  have g1 : ((to.length : Int) != (n : Int)) = true := by rw [bne_iff_ne]; omega
  clear hl
  go_enter Try.func60, Try.ntmps60
  go_wp2_with fail
  go_ret
  exact ⟨rfl, Below.refl _ _⟩
set_option maxRecDepth 100000 in
set_option maxHeartbeats 4000000 in
theorem order_any (n : Nat) (a' : Option Addr) (to : List Int) (c' : Nat) (w : World) (hq : ints.Reads .i64 w a' to) (h4 : n ≤ 4) (ok : Bool) (h : Hid (orderB n to = ok)) :
    Calls Try.prog 60 #[.slice a' to.length c', .int .i64 n] w (RetB ok w) := by
  by_cases hl : to.length = n
  · obtain ⟨i0, hi, hz0, hz1, hz2⟩ := info_parts infoBool
    have HQ := Lib.hid hq
    have HL := Lib.hid hl
    have g1 : ((to.length : Int) != (n : Int)) = false := by rw [bne_eq_false_iff_eq]; omega
    have hn4 : to.length ≤ 4 := by omega
    clear hq hl
    go_enter Try.func60, Try.ntmps60
    go_wp2_with (refine wpList_make_full _ rfl _ _ 53 rfl w.heap.size 4 i0 (.bool false) 1 Try.underlying53 hi hz0 hz1 .i64 .i64 _ _ n rfl rfl rfl rfl (by rw [hz2]; omega) (by unfold maxLen; omega) (Nat.le_refl _) ?_; intro w1 hown1 hgrow1; refine Hid.out ?_)
    refine Lib.hid ?_
    have hb1 : Below w.heap.size w w1 := (Below.refl _ _).grown hgrow1 (Nat.le_refl _) (by simp)
    rw [show (Value.bool false).cells = #[Value.bool false] from rfl, Nat.mul_one, toList_madeCells_one, ← seen_zero n to] at hown1
    go_wp2_with fail
    go_loopw [16] (fun i wr => ∃ j : Nat, j ≤ to.length ∧ i = .int .i64 j ∧ (∀ i, i < j → okAt n to i = true) ∧ wr.ownsRow w.heap.size 4 1 (.slice (some ⟨w.heap.size, 0, none⟩) n n) n (seenTo n to j) ∧ Below w.heap.size w wr) (fun i _ => to.length - (intOf i).toNat)
    case atStart => exact ⟨0, Nat.zero_le _, rfl, fun i hi => by omega, hown1, hb1⟩
    case round =>
      obtain ⟨j, hj, rfl, hall, hown, hbel⟩ := hrel
      clear hown1 hgrow1 hb1
      by_cases hlt : j < to.length
      · obtain ⟨b, off, rfl, hb, hc⟩ := (HQ.out.below hbel).at hlt
        have i1 : (0 : Int) ≤ (j : Int) := by omega
        have i2 : (j : Int) < (to.length : Int) := by omega
        have HB := Lib.hid hbel
        clear hbel
        by_cases h1 : to.getD j 0 < 0
        · obtain rfl : ok = false := by rw [← h.out]; exact order_no j hlt (by unfold okAt; rw [decide_eq_false (by omega)]; rfl)
          clear h hown hall
          generalize to.getD j 0 = x at *
          go_wp2_with fail
          go_ret
          exact ⟨rfl, HB.out⟩
        · by_cases h2 : (n : Int) ≤ to.getD j 0
          · obtain rfl : ok = false := by rw [← h.out]; exact order_no j hlt (by unfold okAt; rw [decide_eq_false (show ¬ to.getD j 0 < (n : Int) by omega), Bool.and_false]; rfl)
            clear h hown hall
            generalize to.getD j 0 = x at *
            go_wp2_with fail
            go_ret
            exact ⟨rfl, HB.out⟩
          · obtain ⟨s, hs⟩ : ∃ s : Nat, to.getD j 0 = (s : Int) := ⟨(to.getD j 0).toNat, by omega⟩
            have hsn : s < n := by omega
            have hcell : wr.cell? ⟨w.heap.size, s, none⟩ = some (.bool (hasB (to.take j) (s : Int))) := by rw [hown.cellAt s (by omega), seen_at hsn]
            rw [hs] at hc
            have i3 : (0 : Int) ≤ (s : Int) := by omega
            have i4 : (s : Int) < (n : Int) := by omega
            clear h1 h2
            cases hx : hasB (to.take j) (s : Int)
            · rw [hx] at hcell
              have hfro := hown.frozenAt s
              have hst := hown.stored s (.bool true)
              rw [seen_succ hlt hs hsn] at hst
              have HS := Lib.hid hst
              have HA := Lib.hid (show ∀ i, i < j + 1 → okAt n to i = true from fun i hi => by
                by_cases e : i = j
                · rw [e]; unfold okAt; rw [hs, hx, decide_eq_true (show (0 : Int) ≤ s by omega), decide_eq_true (show (s : Int) < n by omega)]; rfl
                · exact hall i (by omega))
              clear hst hown hs hx hall
              go_wp2_with fail
              go_roundw
              case rel => exact ⟨j + 1, by omega, by go_num, HA.out, HS.out.1, HB.out.setCell (Nat.le_refl _) _⟩
              case measure => simp [intOf]; omega
            · rw [hx] at hcell
              obtain rfl : ok = false := by rw [← h.out]; exact order_no j hlt (by unfold okAt; rw [hs, hx]; simp)
              clear h hown hall hs hx
              go_wp2_with fail
              go_ret
              exact ⟨rfl, HB.out⟩
      · obtain rfl : j = to.length := by omega
        obtain rfl : ok = true := by rw [← h.out]; exact order_ok HL.out hall
        have HB := Lib.hid hbel
        clear h hown hall hbel
        go_wp2_with fail
        go_ret
        exact ⟨rfl, HB.out⟩
  · obtain rfl : ok = false := by rw [← h.out]; exact order_len hl
    exact order_len_w n a' to c' w h4 hl
set_option maxRecDepth 100000 in
set_option maxHeartbeats 4000000 in
theorem src_at (n k : Nat) (b0 : Nat) (a' : Option Addr) (to : List Int) (c' : Nat) (w : World) (hc0 : w.cell? ⟨b0, 0, none⟩ = some (.slice a' to.length c')) (hq : ints.Reads .i64 w a' to) (h4 : n ≤ 4) (h : orderB n to = true) (hk : k < 2 ^ n) :
    Calls Try.prog 61 #[.int .i64 k, .pointer (some ⟨b0, 0, none⟩)] w (fun e w' => e = .returned (.int .i64 ((srcS (nats to) k n : Nat) : Int)) ∧ ∃ m, w' = w.drewN m) := by
  have HH := Lib.hid h
  have hlen := perm_len h
  have HL := Lib.hid hlen
  have hk16 : k < 16 := Nat.lt_of_lt_of_le hk (pow4 h4).2
  have hn4 : to.length ≤ 4 := by omega
  clear h hlen
  go_enter Try.func61, Try.ntmps61
  go_wp2_with fail
  go_loopw [4, 9] (fun x i wq => ∃ (j : Nat), j ≤ to.length ∧ i = .int .i64 j ∧ x = .int .i64 ((srcO (nats to) k j : Nat) : Int) ∧ wq = w) (fun _ i _ => to.length - (intOf i).toNat)
  case atStart => exact ⟨0, Nat.zero_le _, rfl, rfl, rfl⟩
  case round =>
    obtain ⟨j, hj, rfl, rfl, rfl⟩ := hrel
    by_cases hjt : j < to.length
    · obtain ⟨s, N, d, hs, hs3, hN, hN8, hd, hd01, hS, hO, hS16, hO16, hsn⟩ := src_step h4 HH.out hk (show j < n by have := HL.out; omega)
      obtain ⟨b, off, rfl, hb, hc⟩ := hq.at hjt
      have HDG := Lib.hid (dig_any k j wr hk16 (by omega))
      rw [hd] at HDG
      rw [hs] at hc
      have i1 : (0 : Int) ≤ (j : Int) := by omega
      have i2 : (j : Int) < (to.length : Int) := by omega
      clear hs hd hS hS16
      rcases hd01 with rfl | rfl
      · have HXo := Lib.hid (show srcO (nats to) k j = srcO (nats to) k (j + 1) by rw [hO, Nat.zero_mul, Nat.or_zero])
        have hbit : Go.bits BinOp.or IntKind.i64 ((srcO (nats to) k j : Nat) : Int) 0 = ((srcO (nats to) k j : Nat) : Int) := by
          have := or16 (p := srcO (nats to) k j) (q := 0) hO16 (by omega)
          rwa [Nat.or_zero] at this
        clear hO
        generalize srcO (nats to) k j = x at *
        go_wp2_with fail
        refine HDG.out.mono ?_
        rintro e w' ⟨rfl, rfl⟩
        go_wp2_with fail
        go_roundw
        case rel => exact ⟨j + 1, by omega, by go_num, by rw [← HXo.out], by first | rfl | trivial⟩
        case measure => simp [intOf]; omega
      · have HXo := Lib.hid (show srcO (nats to) k j ||| N = srcO (nats to) k (j + 1) by rw [hO, Nat.one_mul])
        have hbit := or16 (p := srcO (nats to) k j) (q := N) hO16 (by omega)
        clear hO
        generalize srcO (nats to) k j = x at *
        go_wp2_with fail
        refine HDG.out.mono ?_
        rintro e w' ⟨rfl, rfl⟩
        go_wp2_with fail
        go_roundw
        case rel => exact ⟨j + 1, by omega, by go_num, by rw [← HXo.out], by first | rfl | trivial⟩
        case measure => simp [intOf]; omega
    · obtain rfl : j = to.length := by omega
      have HE := Lib.hid (show srcO (nats to) k to.length = srcS (nats to) k n by rw [HL.out]; exact (src_ok h4 HH.out hk (Nat.le_refl n)).1)
      go_wp2_with fail
      go_ret
      exact ⟨congrArg (fun z : Nat => Ending.returned (.int .i64 (z : Int))) HE.out, 0, rfl⟩
end Go.Proofs.Ytchlkcmgonbcjaa.permw
