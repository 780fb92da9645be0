/- The walks of the program's table made from another one, with each of its functions. -/
import Derived.Test.YtobdapalllaceaaMk
namespace Go.Proofs.Ytobdapalllaceaa.fromw
open Go.RowKit own pp nums mk
set_option linter.unusedVariables false
set_option linter.unusedSimpArgs false

set_option maxRecDepth 100000 in
set_option maxHeartbeats 2000000 in
theorem from_PermuteBits (n : Nat) (h4 : n ≤ 4) (a : Option Addr) (zs : List Int) (c : Nat) (c1 : Value) (f : Nat → Nat) (w : World) (hr : ints.Reads .i64 w a zs) (hz : Hid (∀ k, k < 2 ^ n → f k < zs.length)) (hn : zs.length ≤ 1048576)
    (HC : Hid (∀ (k : Nat) (wr : World), k < 2 ^ n → Below w.heap.size w wr → Calls Try.prog 66 #[.int .i64 k, c1] wr fun e w' => e = .returned (.int .i64 (f k : Nat)) ∧ ∃ m, w' = wr.drewN m)) :
    Calls Try.prog 65 #[.int .i64 n, .slice a zs.length c, .func (.func 66) #[] #[c1]] w (intfns.Made (mk (fun k => zs.getD (f k) 0) (2 ^ n)) w) := by
  obtain ⟨i0, hi, hz0, hz1, hz2⟩ := info_parts infoInt
  have HR := Lib.hid hr
  have hp := pow4 h4
  have e2 : (2 : Int) ^ n = ((2 ^ n : Nat) : Int) := by simp
  clear hr
  generalize hN : 2 ^ n = N at *
  clear hN
  go_enter Try.func65, Try.ntmps65
  go_wp2_with (refine wpList_make_full _ rfl _ _ 22 rfl w.heap.size 3 i0 (.int .i64 0) 1 Try.underlying22 hi hz0 hz1 .i64 .i64 _ _ N rfl rfl rfl rfl (by rw [hz2]; omega) (by unfold maxLen; omega) (Nat.le_refl _) ?_; intro w1 hown1 hgrow1; refine Hid.out ?_)
  refine Lib.hid ?_
  have hb1 : Below w.heap.size w w1 := (Below.refl _ _).grown hgrow1 (Nat.le_refl _) (by simp)
  rw [show (Value.int .i64 0).cells = #[Value.int .i64 0] from rfl, Nat.mul_one, toList_madeCells_one, ← fil_zero (fun k => zs.getD (f k) 0)] at hown1
  clear e2
  go_wp2_with fail
  go_loopw [14] (fun i wr => ∃ k : Nat, k ≤ N ∧ i = .int .i64 k ∧ wr.ownsRow w.heap.size 3 1 (.slice (some ⟨w.heap.size, 0, none⟩) N N) N (fil (fun k => zs.getD (f k) 0) N k) ∧ Below w.heap.size w wr) (fun i _ => N - (intOf i).toNat)
  case atStart => exact ⟨0, Nat.zero_le _, rfl, hown1, hb1⟩
  case round =>
    obtain ⟨k, hk, rfl, hown, hbel⟩ := hrel
    clear hown1 hgrow1 hb1
    by_cases hlt : k < N
    · have hfk := hz.out k hlt
      have HF := Lib.hid (HC.out k wr hlt hbel)
      obtain ⟨b, off, rfl, hb, hc⟩ := (HR.out.below hbel).at hfk
      have hcell : wr.cell? ⟨w.heap.size, k, none⟩ = some (.int .i64 0) := by rw [hown.cellAt k (by omega), fil_at _ N k hlt]
      have hfro := hown.frozenAt k
      have hst := hown.stored k (.int .i64 (zs.getD (f k) 0))
      rw [fil_succ (fun k => zs.getD (f k) 0) N k hlt] at hst
      have HS := Lib.hid hst
      have HB := Lib.hid hbel
      clear hst hown hbel
      generalize hx : zs.getD (f k) 0 = x at *
      clear hx
      generalize f k = fk at *
      have i1 : (0 : Int) ≤ (fk : Int) := by omega
      have i2 : (fk : Int) < (zs.length : Int) := by omega
      have HW := Lib.hid (show ∀ m, k + 1 ≤ N ∧ ((wr.drewN m).setCell ⟨w.heap.size, k, none⟩ (.int .i64 x)).ownsRow w.heap.size 3 1 (.slice (some ⟨w.heap.size, 0, none⟩) N N) N (fil (fun k => zs.getD (f k) 0) N (k + 1)) ∧ Below w.heap.size w ((wr.drewN m).setCell ⟨w.heap.size, k, none⟩ (.int .i64 x)) from fun m => ⟨by omega, HS.out.1, (ints.below_drewN HB.out m).setCell (Nat.le_refl _) _⟩)
      go_wp2_with fail
      refine HF.out.mono ?_
      rintro e w' ⟨rfl, m, rfl⟩
      replace HW := Lib.hid (HW.out m)
      replace hc : (wr.drewN m).cell? ⟨b, off + fk, none⟩ = some (.int .i64 x) := hc
      replace hcell : (wr.drewN m).cell? ⟨w.heap.size, k, none⟩ = some (.int .i64 0) := hcell
      replace hfro : (wr.drewN m).frozen? ⟨w.heap.size, k, none⟩ = false := hfro
      clear HS HF HB
      generalize wr.drewN m = wm at *
      go_wp2_with fail
      go_roundw
      case rel => exact ⟨k + 1, HW.out.1, by go_num, HW.out.2.1, HW.out.2.2⟩
      case measure => simp [intOf]; omega
    · obtain rfl : k = N := by omega
      rw [fil_all] at hown
      have HO := Lib.hid hown
      have HB := Lib.hid hbel
      clear hown hbel
      go_wp2_with fail
      go_ret
      exact ⟨_, rfl, OwnI.of (by rw [mk_length]; exact HO.out), HB.out⟩
end Go.Proofs.Ytobdapalllaceaa.fromw
