/- The walk of the program's division by a common divisor. -/
import Derived.Test.YtplhcboecjegjaaCutW
namespace Go.Proofs.Ytplhcboecjegjaa.divw
open Go.RowKit own pp nums mk most gcdw cutw
set_option linter.unusedVariables false
attribute [local go_sem ↓] Go.wp_at_zero Go.wp_at_succ
set_option linter.unusedSimpArgs false

def dv (a : Int) (b : Nat) (k : Nat) : Nat := if k = 0 then 0 else if k = 1 then a.natAbs else Nat.gcd a.natAbs b
/-- The first k numbers, then zeros. -/
def st2 (p q : Int) (k : Nat) : List Value := [if k = 0 then .int .i64 0 else .int .i64 p, if k ≤ 1 then .int .i64 0 else .int .i64 q]
set_option maxRecDepth 100000 in
set_option maxHeartbeats 4000000 in
theorem impl_div (p : Option Addr) (a : Int) (b c : Nat) (w : World) (hr : ints.Reads .i64 w p [a, (b : Int)]) (hb : 0 < b) (h1 : -1000000000000 ≤ a) (h2 : a ≤ 1000000000000) (h3 : b ≤ 1000000000000) :
    Calls Try.prog 118 #[.slice p 2 c] w (intfns.Made [(cutP a b).1, (cutP a b).2] w) := by
  obtain ⟨i0, hi, hz0, hz1, hz2⟩ := info_parts infoInt
  have Hhr := Lib.hid hr
  clear hr
  go_enter Try.func118, Try.ntmps118
  go_wp2_with fail
  go_loopw [3, 11] (fun d i wr => ∃ k : Nat, k ≤ 2 ∧ i = .int .i64 k ∧ d = .int .i64 (dv a b k) ∧ ∃ m, wr = w.drewN m) (fun _ i _ => 2 - (intOf i).toNat)
  case atStart => exact ⟨0, by omega, rfl, rfl, 0, rfl⟩
  case round =>
    obtain ⟨k, hk, rfl, rfl, m, rfl⟩ := hrel
    have HM := Lib.hid (show ∀ n, ∃ q, (w.drewN m).drewN n = w.drewN q from fun n => ⟨_, World.drewN_drewN _ _ _⟩)
    have HBl := Lib.hid (show Below w.heap.size w (w.drewN m) from ints.below_drewN (Below.refl w.heap.size w) m)
    by_cases hlt : k < 2
    · obtain ⟨b0, off, hab, hbl, hc⟩ := (Hhr.out.below HBl.out).at (k := k) (by simpa using hlt)
      subst hab
      have i1 : (0 : Int) ≤ (k : Int) := by omega
      have i2 : (k : Int) < 2 := by omega
      have HC : ∀ wa, Calls Try.prog 169 #[.int .i64 (dv a b k), .int .i64 ([a, (b : Int)].getD k 0)] wa (fun e w' => e = .returned (.int .i64 (dv a b (k + 1) : Nat)) ∧ ∃ m, w' = wa.drewN m) := by
        intro wa
        obtain rfl | rfl : k = 0 ∨ k = 1 := by omega
        · exact impl_first a wa (by omega) (by omega)
        · exact impl_gcd a.natAbs b wa (by omega) (by omega)
      have HC := Lib.hid HC
      generalize [a, (b : Int)].getD k 0 = x at *
      generalize dv a b k = d at *
      generalize hd2 : dv a b (k + 1) = d2 at *
      have HD2 := Lib.hid hd2
      clear hd2
      generalize w.drewN m = wm at *
      go_wp2_with fail
      refine (HC.out _).mono ?_
      rintro e w' ⟨rfl, m2, rfl⟩
      go_wp2_with fail
      go_roundw
      case rel => obtain ⟨r, hr⟩ := HM.out _; exact ⟨k + 1, by omega, by go_num, by rw [HD2.out], r, hr⟩
      case measure => simp only [intOf]; omega
    · obtain rfl : k = 2 := by omega
      have hg : dv a b 2 = Nat.gcd a.natAbs b := rfl
      rw [hg]
      have hgp := gcd_pos (x := a.natAbs) hb
      have hq1 := tdiv_bd (g := Nat.gcd a.natAbs b) 1000000000000 h1 h2
      have hq2 := tdiv_bd (a := (b : Int)) (g := Nat.gcd a.natAbs b) 1000000000000 (by omega) (by omega)
      have HE := Lib.hid (show [(cutP a b).1, (cutP a b).2] = [Int.tdiv a (Nat.gcd a.natAbs b : Nat), Int.tdiv (b : Int) (Nat.gcd a.natAbs b : Nat)] from rfl)
      clear hg
      generalize Nat.gcd a.natAbs b = G at *
      have HR1 := Lib.hid (Hhr.out.below HBl.out)
      generalize w.drewN m = w1 at *
      clear HM
      go_wp2_with (refine wpList_make_full _ rfl _ _ 22 rfl w1.heap.size 3 i0 (.int .i64 0) 1 Try.underlying22 hi hz0 hz1 .i64 .i64 _ _ 2 rfl rfl rfl rfl (by rw [hz2]; omega) (by unfold maxLen; omega) (Nat.le_refl _) ?_; intro w2 hown1 hgrow1; refine Hid.out ?_)
      refine Lib.hid ?_
      have hb1 : Below w.heap.size w w2 := HBl.out.grown hgrow1 (by have := HBl.out.size; omega) (by simp)
      have hb2 : Below w1.heap.size w1 w2 := (Below.refl _ _).grown hgrow1 (Nat.le_refl _) (by simp)
      have HB1 := Lib.hid hb1
      rw [show (Value.int .i64 0).cells = #[Value.int .i64 0] from rfl, Nat.mul_one, toList_madeCells_one] at hown1
      have hown2 : w2.ownsRow w1.heap.size 3 1 (.slice (some ⟨w1.heap.size, 0, none⟩) 2 2) 2 (st2 (Int.tdiv a (G : Int)) (Int.tdiv (b : Int) (G : Int)) 0) := hown1
      have HB9 := Lib.hid (Hhr.out.below HBl.out)
      have hsz1 := HBl.out.size
      clear hown1 hgrow1 hb1
      have hg0 : ¬ ((G : Int) = 0) := by omega
      have hg1 : ¬ (G = 0) := by omega
      go_wp2_with fail
      go_loopw [24] (fun i wr => ∃ k : Nat, k ≤ 2 ∧ i = .int .i64 k ∧ wr.ownsRow w1.heap.size 3 1 (.slice (some ⟨w1.heap.size, 0, none⟩) 2 2) 2 (st2 (Int.tdiv a (G : Int)) (Int.tdiv (b : Int) (G : Int)) k) ∧ Below w1.heap.size w1 wr) (fun i _ => 2 - (intOf i).toNat)
      case atStart => exact ⟨0, by omega, rfl, hown2, hb2⟩
      case round =>
        obtain ⟨k, hk, rfl, hown, hbel⟩ := hrel
        clear hown2 hb2
        have HBk := Lib.hid hbel
        by_cases hlt : k < 2
        · obtain ⟨b0, off, hab, hbl, hc⟩ := (HR1.out.below hbel).at (k := k) (by simpa using hlt)
          subst hab
          have i1 : (0 : Int) ≤ (k : Int) := by omega
          have i2 : (k : Int) < 2 := by omega
          obtain ⟨y, z, hx, hw9, hcl, hse⟩ : ∃ y z : Int, [a, (b : Int)].getD k 0 = y ∧ IntKind.i64.wrap z = z ∧ z = Int.tdiv y (G : Int) ∧ (st2 (Int.tdiv a (G : Int)) (Int.tdiv (b : Int) (G : Int)) k)[k]? = some (.int .i64 0) ∧ (st2 (Int.tdiv a (G : Int)) (Int.tdiv (b : Int) (G : Int)) k).set k (.int .i64 z) = st2 (Int.tdiv a (G : Int)) (Int.tdiv (b : Int) (G : Int)) (k + 1) := by
            obtain rfl | rfl : k = 0 ∨ k = 1 := by omega
            · exact ⟨a, _, rfl, IntWalk.i64_in _ (by omega), rfl, rfl, rfl⟩
            · exact ⟨b, _, rfl, IntWalk.i64_in _ (by omega), rfl, rfl, rfl⟩
          obtain ⟨hcl, hse, hss⟩ : z = Int.tdiv y (G : Int) ∧ _ ∧ _ := ⟨hcl, hse⟩
          have hcell : wr.cell? ⟨w1.heap.size, k, none⟩ = some (.int .i64 0) := by rw [hown.cellAt k (by omega), hse]
          have hfro := hown.frozenAt k
          have hst := hown.stored k (.int .i64 z)
          rw [hss] at hst
          have HS := Lib.hid hst
          rw [hx] at hc
          clear hst hown hbel hse hss hx
          subst hcl
          go_wp2_with fail
          go_roundw
          case rel => exact ⟨k + 1, by omega, by go_num, HS.out.1, HBk.out.setCell (Nat.le_refl _) _⟩
          case measure => simp [intOf]; omega
        · obtain rfl : k = 2 := by omega
          have HO := Lib.hid (show intfns.Made [Int.tdiv a (G : Int), Int.tdiv (b : Int) (G : Int)] w (.returned (.slice (some ⟨w1.heap.size, 0, none⟩) 2 2)) wr from ⟨_, rfl, (OwnI.of hown).mono hsz1 (Nat.le_refl _), HBl.out.trans (hbel.mono hsz1)⟩)
          clear hown hbel
          go_wp2_with fail
          go_ret
          exact by rw [HE.out]; exact HO.out
end Go.Proofs.Ytplhcboecjegjaa.divw
