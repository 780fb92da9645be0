/- The walk of BothTable: the program's, where both are votes with as many voters. -/
import Derived.Test.YtplhcboecjegjaaBothI
namespace Go.Proofs.Ytplhcboecjegjaa.bothi
open Go.RowKit own pp nums pv planetable tables splitp
set_option linter.unusedVariables false
attribute [local go_sem ↓] Go.wp_at_zero Go.wp_at_succ
set_option linter.unusedSimpArgs false

set_option maxRecDepth 100000 in
set_option maxHeartbeats 4000000 in
theorem impl_yes (a : Option Addr) (ws : List Int) (c : Nat) (q : Int) (a' : Option Addr) (zs : List Int) (c' : Nat) (q' : Int) (w : World) (hr : ints.Reads .i64 w a ws) (hz : ints.Reads .i64 w a' zs) (hn : ws.length ≤ 1048576) (hm : zs.length ≤ 1048576) (hv : voteB ws q = true) (hv' : voteB zs q' = true) (hll : ws.length = zs.length) (hl4 : ws.length ≤ 4) :
    Calls Try.prog 34 #[.agg #[.slice a ws.length c, .int .i64 q], .agg #[.slice a' zs.length c', .int .i64 q']] w (RetIB (preTo (tab ws q) (tab zs q') (tab ws q).length) true w) := by
  have HA1 := Lib.hid (fun (wa : World) (hb : Below w.heap.size w wa) => toldv.impl_yes a ws c q wa (hr.below hb) hn hv hl4)
  have HA2 := Lib.hid (fun (wa : World) (hb : Below w.heap.size w wa) => toldv.impl_yes a' zs c' q' wa (hz.below hb) hm hv' (by omega))
  clear hr hz
  have hlx := tab_len ws q
  have hly := tab_len zs q'
  have hvx := tab_bit ws q
  have hvy := tab_bit zs q'
  rw [← hll] at hly hvy
  have hpw := (mk.pow4 hl4).2
  have hp1 : 1 ≤ 2 ^ ws.length := Nat.one_le_two_pow
  have HVX := Lib.hid hvx
  have HVY := Lib.hid hvy
  clear hvx hvy
  have HLL := Lib.hid hll
  clear hll
  generalize tab ws q = xs at *
  generalize tab zs q' = ys at *
  have HLX := Lib.hid hlx
  have HLY := Lib.hid hly
  clear hlx hly
  go_enter Try.func34, Try.ntmps34
  go_wp2_with fail
  have x0_0 : (w.alloc (.cells #[.slice a ws.length c, .int .i64 q] 29)).cell? ⟨w.heap.size, 0, none⟩ = some (.slice a ws.length c) := cell_new _ _ _ (by simp) rfl
  have x0_1 : (w.alloc (.cells #[.slice a ws.length c, .int .i64 q] 29)).cell? ⟨w.heap.size, 1, none⟩ = some (.int .i64 q) := cell_new _ _ _ (by simp) rfl
  have HB0 := Lib.hid (below_alloc w (.cells #[.slice a ws.length c, .int .i64 q] 29))
  replace x0_0 := cell_old (.cells #[.slice a' zs.length c', .int .i64 q'] 29) x0_0
  replace x0_1 := cell_old (.cells #[.slice a' zs.length c', .int .i64 q'] 29) x0_1
  have x1_0 : ((w.alloc (.cells #[.slice a ws.length c, .int .i64 q] 29)).alloc (.cells #[.slice a' zs.length c', .int .i64 q'] 29)).cell? ⟨w.heap.size + 1, 0, none⟩ = some (.slice a' zs.length c') := cell_new _ _ _ (by simp) rfl
  have x1_1 : ((w.alloc (.cells #[.slice a ws.length c, .int .i64 q] 29)).alloc (.cells #[.slice a' zs.length c', .int .i64 q'] 29)).cell? ⟨w.heap.size + 1, 1, none⟩ = some (.int .i64 q') := cell_new _ _ _ (by simp) rfl
  replace HB0 := Lib.hid (HB0.out.alloc (by simp) (.cells #[.slice a' zs.length c', .int .i64 q'] 29))
  have s0 : w.heap.size + 2 ≤ ((w.alloc (.cells #[.slice a ws.length c, .int .i64 q] 29)).alloc (.cells #[.slice a' zs.length c', .int .i64 q'] 29)).heap.size := by simp
  generalize hw : ((w.alloc (.cells #[.slice a ws.length c, .int .i64 q] 29)).alloc (.cells #[.slice a' zs.length c', .int .i64 q'] 29)) = w0 at *
  clear hw
  have n0_0 : w.heap.size < w0.heap.size := by omega
  have n0_1 : w.heap.size + 1 < w0.heap.size := by omega
  refine (HA1.out _ HB0.out).mono ?_
  rintro e w1 ⟨vx, rfl, ho, hb⟩
  obtain ⟨px, qx, rfl, _, _, _⟩ := ho.slice
  have s1 : w0.heap.size ≤ w1.heap.size := hb.size
  have n1_0 : w.heap.size < w1.heap.size := by omega
  have n1_1 : w.heap.size + 1 < w1.heap.size := by omega
  replace x0_0 := cell_below hb x0_0 (by omega)
  replace x0_1 := cell_below hb x0_1 (by omega)
  replace x1_0 := cell_below hb x1_0 (by omega)
  replace x1_1 := cell_below hb x1_1 (by omega)
  have HB1 := Lib.hid (HB0.out.trans (hb.mono (by omega)))
  clear hb
  have Hx := Lib.hid ho
  clear ho
  go_wp2_with fail
  refine (HA2.out _ HB1.out).mono ?_
  rintro e w2 ⟨vy, rfl, ho, hb⟩
  obtain ⟨py, qy, rfl, _, _, _⟩ := ho.slice
  have s2 : w1.heap.size ≤ w2.heap.size := hb.size
  have n2_0 : w.heap.size < w2.heap.size := by omega
  have n2_1 : w.heap.size + 1 < w2.heap.size := by omega
  replace x0_0 := cell_below hb x0_0 (by omega)
  replace x0_1 := cell_below hb x0_1 (by omega)
  replace x1_0 := cell_below hb x1_0 (by omega)
  replace x1_1 := cell_below hb x1_1 (by omega)
  replace Hx := Lib.hid (Hx.out.below hb)
  have HB2 := Lib.hid (HB1.out.trans (hb.mono (by omega)))
  clear hb
  have Hy := Lib.hid ho
  clear ho
  have hlx := HLX.out
  have hly := HLY.out
  rw [hlx] at Hx
  rw [hly] at Hy
  obtain ⟨gx, hgx, hgx1, hgx2⟩ := own_block Hx.out (by omega)
  obtain ⟨gy, hgy, hgy1, hgy2⟩ := own_block Hy.out (by omega)
  subst hgx hgy
  have HX := Lib.hid (show OwnI w0.heap.size w1.heap.size w2 (.slice (some ⟨gx, 0, none⟩) (2 ^ ws.length) qx) (mixTo xs ys 0) by rw [mixTo_zero]; exact Hx.out)
  have HY := Hy
  have HXL := Lib.hid (mixTo_length xs ys)
  have HML := Lib.hid (mixTo_all xs ys)
  rw [hlx] at HXL HML ⊢
  rw [hly]
  have hly' := Lib.hid hly
  clear Hx Hy hly
  generalize 2 ^ ws.length = N at *
  go_wp2_with fail
  go_loopw [38] (fun i wr => ∃ k : Nat, k ≤ N ∧ i = .int .i64 k ∧ OwnI w0.heap.size w1.heap.size wr (.slice (some ⟨gx, 0, none⟩) N qx) (mixTo xs ys k) ∧ OwnI w1.heap.size w2.heap.size wr (.slice (some ⟨gy, 0, none⟩) N qy) ys ∧ Below w.heap.size w wr) (fun i _ => N - (intOf i).toNat)
  case atStart => exact ⟨0, Nat.zero_le _, rfl, HX.out, HY.out, HB2.out⟩
  case round =>
    clear HX HY HB2
    obtain ⟨k, hk, rfl, hox, hoy, hbel⟩ := hrel
    have HX := Lib.hid hox
    have HY := Lib.hid hoy
    have HBl := Lib.hid hbel
    by_cases hlt : k < N
    · have hcx := own_cell hox (HXL.out k).symm k (by rw [HXL.out]; exact hlt)
      rw [mixTo_at _ _ _ _ (by rw [HLX.out]; exact hlt), if_neg (Nat.lt_irrefl k)] at hcx
      have hcy := own_cell hoy hly'.out.symm k (by rw [hly'.out]; exact hlt)
      have hfx := own_fro hox (HXL.out k).symm k
      have HPUT := Lib.hid (own_put hox (HXL.out k).symm k (xs.getD k 0 * ys.getD k 0))
      have HPY := Lib.hid (hoy.set (a := ⟨gx, k, none⟩) (by show gx < w1.heap.size; omega) (.int .i64 (xs.getD k 0 * ys.getD k 0)))
      have hms := mixTo_succ xs ys k (by rw [HLX.out]; exact hlt)
      rw [hms] at HPUT
      clear hms hox hoy hbel
      have i1 : (0 : Int) ≤ (k : Int) := by omega
      have i2 : (k : Int) < (N : Int) := by omega
      have hx := HVX.out k hlt
      have hy := HVY.out k hlt
      have e1 : IntKind.i64.wrap (xs.getD k 0 * ys.getD k 0) = xs.getD k 0 * ys.getD k 0 := by
        rcases hx with hx | hx <;> rcases hy with hy | hy <;> rw [hx, hy] <;> decide
      generalize xs.getD k 0 = x at *
      generalize ys.getD k 0 = y at *
      go_wp2_with fail
      go_roundw
      case rel => exact ⟨k + 1, by omega, by go_num, HPUT.out, HPY.out, HBl.out.setCell (by show w.heap.size ≤ gx; omega) _⟩
      case measure => simp [intOf]; omega
    · obtain rfl : k = N := by omega
      have hsz2 : w1.heap.size ≤ wr.heap.size := by
        have h9 := (hoy.lt (g := gy) rfl).2.2
        omega
      have hml := HML.out
      have hox2 : OwnI w.heap.size wr.heap.size wr (.slice (some ⟨gx, 0, none⟩) k qx) (preTo xs ys k) := by
        rw [← hml]
        exact hox.mono (by omega) hsz2
      have HF := Lib.hid (show RetIB (preTo xs ys k) true w (.returned (.tuple #[.slice (some ⟨gx, 0, none⟩) k qx, .bool true])) wr from ⟨_, rfl, hox2, hbel⟩)
      clear hox2 hml
      clear hox hoy hbel HX HY
      go_wp2_with fail
      go_ret2
      rw [show xs.length = k from HLX.out]
      exact HF.out
end Go.Proofs.Ytplhcboecjegjaa.bothi
