/- The walk of BothTable: the model's. -/
import Derived.Test.YtplhcboecjegjaaBothI
namespace Go.Proofs.Ytplhcboecjegjaa.boths
open Go.RowKit own pp nums pv planetable tables splitp bothi
set_option linter.unusedVariables false
attribute [local go_sem ↓] Go.wp_at_zero Go.wp_at_succ
set_option linter.unusedSimpArgs false

theorem own_point {W : World} {lo hi g n cap : Nat} {l : List Int} (h : OwnI lo hi W (.slice (some ⟨g, 0, none⟩) n cap) l) : OwnI g (g + 1) W (.slice (some ⟨g, 0, none⟩) n cap) l :=
  ⟨ownsRow_base h.1 (fun g' e => by obtain rfl : g = g' := (by simpa [Value.ownBlock] using e); exact Nat.le_refl _), fun g' e => by obtain rfl : g = g' := (by simpa [Value.ownBlock] using e); omega⟩
set_option maxRecDepth 100000 in
set_option maxHeartbeats 4000000 in
theorem spec_no1 (a : Option Addr) (ws : List Int) (c : Nat) (q : Int) (a' : Option Addr) (zs : List Int) (c' : Nat) (q' : Int) (w : World) (hr : ints.Reads .i64 w a ws) (hz : ints.Reads .i64 w a' zs) (hn : ws.length ≤ 1048576) (hm : zs.length ≤ 1048576) (h : Hid (voteB ws q = false)) :
    Calls Try.prog 33 #[.agg #[.slice a ws.length c, .int .i64 q], .agg #[.slice a' zs.length c', .int .i64 q']] w (RetIB [] false w) := by
  have Hhr := Lib.hid hr
  have Hhz := Lib.hid hz
  clear hr hz
  go_enter Try.func33, Try.ntmps33
  go_wp2_with fail
  have x0_0 : (w.alloc (.cells #[.slice a ws.length c, .int .i64 q] 29)).cell? ⟨w.heap.size, 0, none⟩ = some (.slice a ws.length c) := cell_new _ _ _ (by simp) rfl
  have x0_1 : (w.alloc (.cells #[.slice a ws.length c, .int .i64 q] 29)).cell? ⟨w.heap.size, 1, none⟩ = some (.int .i64 q) := cell_new _ _ _ (by simp) rfl
  have HB0 := Lib.hid (below_alloc w (.cells #[.slice a ws.length c, .int .i64 q] 29))
  replace x0_0 := cell_old (.cells #[.slice a' zs.length c', .int .i64 q'] 29) x0_0
  replace x0_1 := cell_old (.cells #[.slice a' zs.length c', .int .i64 q'] 29) x0_1
  have x1_0 : ((w.alloc (.cells #[.slice a ws.length c, .int .i64 q] 29)).alloc (.cells #[.slice a' zs.length c', .int .i64 q'] 29)).cell? ⟨w.heap.size + 1, 0, none⟩ = some (.slice a' zs.length c') := cell_new _ _ _ (by simp) rfl
  have x1_1 : ((w.alloc (.cells #[.slice a ws.length c, .int .i64 q] 29)).alloc (.cells #[.slice a' zs.length c', .int .i64 q'] 29)).cell? ⟨w.heap.size + 1, 1, none⟩ = some (.int .i64 q') := cell_new _ _ _ (by simp) rfl
  replace HB0 := Lib.hid (HB0.out.alloc (by simp) (.cells #[.slice a' zs.length c', .int .i64 q'] 29))
  have s0 : w.heap.size + 2 ≤ ((w.alloc (.cells #[.slice a ws.length c, .int .i64 q] 29)).alloc (.cells #[.slice a' zs.length c', .int .i64 q'] 29)).heap.size := by simp
  generalize hw : ((w.alloc (.cells #[.slice a ws.length c, .int .i64 q] 29)).alloc (.cells #[.slice a' zs.length c', .int .i64 q'] 29)) = w0 at *
  clear hw
  have n0_0 : w.heap.size < w0.heap.size := by omega
  have n0_1 : w.heap.size + 1 < w0.heap.size := by omega
  refine (vote.spec_vote a ws c q _ (Hhr.out.below HB0.out) hn false h).mono ?_
  rintro e w1 ⟨rfl, hb⟩
  have s1 : w0.heap.size ≤ w1.heap.size := hb.size
  have n1_0 : w.heap.size < w1.heap.size := by omega
  have n1_1 : w.heap.size + 1 < w1.heap.size := by omega
  replace x0_0 := cell_below hb x0_0 (by omega)
  replace x0_1 := cell_below hb x0_1 (by omega)
  replace x1_0 := cell_below hb x1_0 (by omega)
  replace x1_1 := cell_below hb x1_1 (by omega)
  have HB1 := Lib.hid (HB0.out.trans (hb.mono (by omega)))
  clear hb
  go_wp2_with fail
  go_ret2
  exact ret_empty HB1.out
set_option maxRecDepth 100000 in
set_option maxHeartbeats 4000000 in
theorem spec_no2 (a : Option Addr) (ws : List Int) (c : Nat) (q : Int) (a' : Option Addr) (zs : List Int) (c' : Nat) (q' : Int) (w : World) (hr : ints.Reads .i64 w a ws) (hz : ints.Reads .i64 w a' zs) (hn : ws.length ≤ 1048576) (hm : zs.length ≤ 1048576) (h : Hid (voteB ws q = true)) (h2 : Hid (voteB zs q' = false)) :
    Calls Try.prog 33 #[.agg #[.slice a ws.length c, .int .i64 q], .agg #[.slice a' zs.length c', .int .i64 q']] w (RetIB [] false w) := by
  have Hhr := Lib.hid hr
  have Hhz := Lib.hid hz
  clear hr hz
  go_enter Try.func33, Try.ntmps33
  go_wp2_with fail
  have x0_0 : (w.alloc (.cells #[.slice a ws.length c, .int .i64 q] 29)).cell? ⟨w.heap.size, 0, none⟩ = some (.slice a ws.length c) := cell_new _ _ _ (by simp) rfl
  have x0_1 : (w.alloc (.cells #[.slice a ws.length c, .int .i64 q] 29)).cell? ⟨w.heap.size, 1, none⟩ = some (.int .i64 q) := cell_new _ _ _ (by simp) rfl
  have HB0 := Lib.hid (below_alloc w (.cells #[.slice a ws.length c, .int .i64 q] 29))
  replace x0_0 := cell_old (.cells #[.slice a' zs.length c', .int .i64 q'] 29) x0_0
  replace x0_1 := cell_old (.cells #[.slice a' zs.length c', .int .i64 q'] 29) x0_1
  have x1_0 : ((w.alloc (.cells #[.slice a ws.length c, .int .i64 q] 29)).alloc (.cells #[.slice a' zs.length c', .int .i64 q'] 29)).cell? ⟨w.heap.size + 1, 0, none⟩ = some (.slice a' zs.length c') := cell_new _ _ _ (by simp) rfl
  have x1_1 : ((w.alloc (.cells #[.slice a ws.length c, .int .i64 q] 29)).alloc (.cells #[.slice a' zs.length c', .int .i64 q'] 29)).cell? ⟨w.heap.size + 1, 1, none⟩ = some (.int .i64 q') := cell_new _ _ _ (by simp) rfl
  replace HB0 := Lib.hid (HB0.out.alloc (by simp) (.cells #[.slice a' zs.length c', .int .i64 q'] 29))
  have s0 : w.heap.size + 2 ≤ ((w.alloc (.cells #[.slice a ws.length c, .int .i64 q] 29)).alloc (.cells #[.slice a' zs.length c', .int .i64 q'] 29)).heap.size := by simp
  generalize hw : ((w.alloc (.cells #[.slice a ws.length c, .int .i64 q] 29)).alloc (.cells #[.slice a' zs.length c', .int .i64 q'] 29)) = w0 at *
  clear hw
  have n0_0 : w.heap.size < w0.heap.size := by omega
  have n0_1 : w.heap.size + 1 < w0.heap.size := by omega
  refine (vote.spec_vote a ws c q _ (Hhr.out.below HB0.out) hn true h).mono ?_
  rintro e w1 ⟨rfl, hb⟩
  have s1 : w0.heap.size ≤ w1.heap.size := hb.size
  have n1_0 : w.heap.size < w1.heap.size := by omega
  have n1_1 : w.heap.size + 1 < w1.heap.size := by omega
  replace x0_0 := cell_below hb x0_0 (by omega)
  replace x0_1 := cell_below hb x0_1 (by omega)
  replace x1_0 := cell_below hb x1_0 (by omega)
  replace x1_1 := cell_below hb x1_1 (by omega)
  have HB1 := Lib.hid (HB0.out.trans (hb.mono (by omega)))
  clear hb
  go_wp2_with fail
  refine (vote.spec_vote a' zs c' q' _ (Hhz.out.below HB1.out) hm false h2).mono ?_
  rintro e w2 ⟨rfl, hb⟩
  have s2 : w1.heap.size ≤ w2.heap.size := hb.size
  have n2_0 : w.heap.size < w2.heap.size := by omega
  have n2_1 : w.heap.size + 1 < w2.heap.size := by omega
  replace x0_0 := cell_below hb x0_0 (by omega)
  replace x0_1 := cell_below hb x0_1 (by omega)
  replace x1_0 := cell_below hb x1_0 (by omega)
  replace x1_1 := cell_below hb x1_1 (by omega)
  have HB2 := Lib.hid (HB1.out.trans (hb.mono (by omega)))
  clear hb
  go_wp2_with fail
  go_ret2
  exact ret_empty HB2.out
set_option maxRecDepth 100000 in
set_option maxHeartbeats 4000000 in
theorem spec_no3 (a : Option Addr) (ws : List Int) (c : Nat) (q : Int) (a' : Option Addr) (zs : List Int) (c' : Nat) (q' : Int) (w : World) (hr : ints.Reads .i64 w a ws) (hz : ints.Reads .i64 w a' zs) (hn : ws.length ≤ 1048576) (hm : zs.length ≤ 1048576) (h : Hid (voteB ws q = true)) (h2 : Hid (voteB zs q' = true)) (hne : ¬ ((ws.length : Int) = (zs.length : Int))) :
    Calls Try.prog 33 #[.agg #[.slice a ws.length c, .int .i64 q], .agg #[.slice a' zs.length c', .int .i64 q']] w (RetIB [] false w) := by
  have Hhr := Lib.hid hr
  have Hhz := Lib.hid hz
  clear hr hz
  go_enter Try.func33, Try.ntmps33
  go_wp2_with fail
  have x0_0 : (w.alloc (.cells #[.slice a ws.length c, .int .i64 q] 29)).cell? ⟨w.heap.size, 0, none⟩ = some (.slice a ws.length c) := cell_new _ _ _ (by simp) rfl
  have x0_1 : (w.alloc (.cells #[.slice a ws.length c, .int .i64 q] 29)).cell? ⟨w.heap.size, 1, none⟩ = some (.int .i64 q) := cell_new _ _ _ (by simp) rfl
  have HB0 := Lib.hid (below_alloc w (.cells #[.slice a ws.length c, .int .i64 q] 29))
  replace x0_0 := cell_old (.cells #[.slice a' zs.length c', .int .i64 q'] 29) x0_0
  replace x0_1 := cell_old (.cells #[.slice a' zs.length c', .int .i64 q'] 29) x0_1
  have x1_0 : ((w.alloc (.cells #[.slice a ws.length c, .int .i64 q] 29)).alloc (.cells #[.slice a' zs.length c', .int .i64 q'] 29)).cell? ⟨w.heap.size + 1, 0, none⟩ = some (.slice a' zs.length c') := cell_new _ _ _ (by simp) rfl
  have x1_1 : ((w.alloc (.cells #[.slice a ws.length c, .int .i64 q] 29)).alloc (.cells #[.slice a' zs.length c', .int .i64 q'] 29)).cell? ⟨w.heap.size + 1, 1, none⟩ = some (.int .i64 q') := cell_new _ _ _ (by simp) rfl
  replace HB0 := Lib.hid (HB0.out.alloc (by simp) (.cells #[.slice a' zs.length c', .int .i64 q'] 29))
  have s0 : w.heap.size + 2 ≤ ((w.alloc (.cells #[.slice a ws.length c, .int .i64 q] 29)).alloc (.cells #[.slice a' zs.length c', .int .i64 q'] 29)).heap.size := by simp
  generalize hw : ((w.alloc (.cells #[.slice a ws.length c, .int .i64 q] 29)).alloc (.cells #[.slice a' zs.length c', .int .i64 q'] 29)) = w0 at *
  clear hw
  have n0_0 : w.heap.size < w0.heap.size := by omega
  have n0_1 : w.heap.size + 1 < w0.heap.size := by omega
  refine (vote.spec_vote a ws c q _ (Hhr.out.below HB0.out) hn true h).mono ?_
  rintro e w1 ⟨rfl, hb⟩
  have s1 : w0.heap.size ≤ w1.heap.size := hb.size
  have n1_0 : w.heap.size < w1.heap.size := by omega
  have n1_1 : w.heap.size + 1 < w1.heap.size := by omega
  replace x0_0 := cell_below hb x0_0 (by omega)
  replace x0_1 := cell_below hb x0_1 (by omega)
  replace x1_0 := cell_below hb x1_0 (by omega)
  replace x1_1 := cell_below hb x1_1 (by omega)
  have HB1 := Lib.hid (HB0.out.trans (hb.mono (by omega)))
  clear hb
  go_wp2_with fail
  refine (vote.spec_vote a' zs c' q' _ (Hhz.out.below HB1.out) hm true h2).mono ?_
  rintro e w2 ⟨rfl, hb⟩
  have s2 : w1.heap.size ≤ w2.heap.size := hb.size
  have n2_0 : w.heap.size < w2.heap.size := by omega
  have n2_1 : w.heap.size + 1 < w2.heap.size := by omega
  replace x0_0 := cell_below hb x0_0 (by omega)
  replace x0_1 := cell_below hb x0_1 (by omega)
  replace x1_0 := cell_below hb x1_0 (by omega)
  replace x1_1 := cell_below hb x1_1 (by omega)
  have HB2 := Lib.hid (HB1.out.trans (hb.mono (by omega)))
  clear hb
  go_wp2_with fail
  go_ret2
  exact ret_empty HB2.out
set_option maxRecDepth 100000 in
set_option maxHeartbeats 4000000 in
theorem spec_no4 (a : Option Addr) (ws : List Int) (c : Nat) (q : Int) (a' : Option Addr) (zs : List Int) (c' : Nat) (q' : Int) (w : World) (hr : ints.Reads .i64 w a ws) (hz : ints.Reads .i64 w a' zs) (hn : ws.length ≤ 1048576) (hm : zs.length ≤ 1048576) (h : Hid (voteB ws q = true)) (h2 : Hid (voteB zs q' = true)) (hl : Hid (zs.length = ws.length)) (h4 : ¬ ws.length ≤ 4) :
    Calls Try.prog 33 #[.agg #[.slice a ws.length c, .int .i64 q], .agg #[.slice a' zs.length c', .int .i64 q']] w (RetIB [] false w) := by
  have HV1 := Lib.hid (fun (wa : World) (hb : Below w.heap.size w wa) => vote.spec_vote a ws c q wa (hr.below hb) hn true h)
  have HV2 := Lib.hid (fun (wa : World) (hb : Below w.heap.size w wa) => vote.spec_vote a' zs c' q' wa (hz.below hb) hm true h2)
  clear hr hz h h2
  rw [hl.out] at HV2 ⊢
  clear hl
  go_enter Try.func33, Try.ntmps33
  go_wp2_with fail
  have x0_0 : (w.alloc (.cells #[.slice a ws.length c, .int .i64 q] 29)).cell? ⟨w.heap.size, 0, none⟩ = some (.slice a ws.length c) := cell_new _ _ _ (by simp) rfl
  have x0_1 : (w.alloc (.cells #[.slice a ws.length c, .int .i64 q] 29)).cell? ⟨w.heap.size, 1, none⟩ = some (.int .i64 q) := cell_new _ _ _ (by simp) rfl
  have HB0 := Lib.hid (below_alloc w (.cells #[.slice a ws.length c, .int .i64 q] 29))
  replace x0_0 := cell_old (.cells #[.slice a' ws.length c', .int .i64 q'] 29) x0_0
  replace x0_1 := cell_old (.cells #[.slice a' ws.length c', .int .i64 q'] 29) x0_1
  have x1_0 : ((w.alloc (.cells #[.slice a ws.length c, .int .i64 q] 29)).alloc (.cells #[.slice a' ws.length c', .int .i64 q'] 29)).cell? ⟨w.heap.size + 1, 0, none⟩ = some (.slice a' ws.length c') := cell_new _ _ _ (by simp) rfl
  have x1_1 : ((w.alloc (.cells #[.slice a ws.length c, .int .i64 q] 29)).alloc (.cells #[.slice a' ws.length c', .int .i64 q'] 29)).cell? ⟨w.heap.size + 1, 1, none⟩ = some (.int .i64 q') := cell_new _ _ _ (by simp) rfl
  replace HB0 := Lib.hid (HB0.out.alloc (by simp) (.cells #[.slice a' ws.length c', .int .i64 q'] 29))
  have s0 : w.heap.size + 2 ≤ ((w.alloc (.cells #[.slice a ws.length c, .int .i64 q] 29)).alloc (.cells #[.slice a' ws.length c', .int .i64 q'] 29)).heap.size := by simp
  generalize hw : ((w.alloc (.cells #[.slice a ws.length c, .int .i64 q] 29)).alloc (.cells #[.slice a' ws.length c', .int .i64 q'] 29)) = w0 at *
  clear hw
  have n0_0 : w.heap.size < w0.heap.size := by omega
  have n0_1 : w.heap.size + 1 < w0.heap.size := by omega
  refine (HV1.out _ HB0.out).mono ?_
  rintro e w1 ⟨rfl, hb⟩
  have s1 : w0.heap.size ≤ w1.heap.size := hb.size
  have n1_0 : w.heap.size < w1.heap.size := by omega
  have n1_1 : w.heap.size + 1 < w1.heap.size := by omega
  replace x0_0 := cell_below hb x0_0 (by omega)
  replace x0_1 := cell_below hb x0_1 (by omega)
  replace x1_0 := cell_below hb x1_0 (by omega)
  replace x1_1 := cell_below hb x1_1 (by omega)
  have HB1 := Lib.hid (HB0.out.trans (hb.mono (by omega)))
  clear hb
  go_wp2_with fail
  refine (HV2.out _ HB1.out).mono ?_
  rintro e w2 ⟨rfl, hb⟩
  have s2 : w1.heap.size ≤ w2.heap.size := hb.size
  have n2_0 : w.heap.size < w2.heap.size := by omega
  have n2_1 : w.heap.size + 1 < w2.heap.size := by omega
  replace x0_0 := cell_below hb x0_0 (by omega)
  replace x0_1 := cell_below hb x0_1 (by omega)
  replace x1_0 := cell_below hb x1_0 (by omega)
  replace x1_1 := cell_below hb x1_1 (by omega)
  have HB2 := Lib.hid (HB1.out.trans (hb.mono (by omega)))
  clear hb
  go_wp2_with fail
  go_ret2
  exact ret_empty HB2.out
set_option maxRecDepth 100000 in
set_option maxHeartbeats 4000000 in
theorem spec_yes (a : Option Addr) (ws : List Int) (c : Nat) (q : Int) (a' : Option Addr) (zs : List Int) (c' : Nat) (q' : Int) (w : World) (hr : ints.Reads .i64 w a ws) (hz : ints.Reads .i64 w a' zs) (hn : ws.length ≤ 1048576) (hm : zs.length ≤ 1048576) (h : Hid (voteB ws q = true)) (h2 : Hid (voteB zs q' = true)) (hl : Hid (zs.length = ws.length)) (h4 : ws.length ≤ 4) :
    Calls Try.prog 33 #[.agg #[.slice a ws.length c, .int .i64 q], .agg #[.slice a' zs.length c', .int .i64 q']] w (RetIB (preTo (tab ws q) (tab zs q') (tab ws q).length) true w) := by
  obtain ⟨i0, hi, hz0, hz1, hz2⟩ := info_parts mk.infoInt
  have HV1 := Lib.hid (fun (wa : World) (hb : Below w.heap.size w wa) => vote.spec_vote a ws c q wa (hr.below hb) hn true h)
  have HV2 := Lib.hid (fun (wa : World) (hb : Below w.heap.size w wa) => vote.spec_vote a' zs c' q' wa (hz.below hb) hm true h2)
  have HW1 := Lib.hid (fun (wa : World) (hb : Below w.heap.size w wa) => toldv.spec_told a ws c q wa (hr.below hb) hn h.out)
  have HW2 := Lib.hid (fun (wa : World) (hb : Below w.heap.size w wa) => toldv.spec_told a' zs c' q' wa (hz.below hb) hm h2.out)
  have HLX := Lib.hid (tab_len ws q)
  have HLY := Lib.hid (show (tab zs q').length = 2 ^ ws.length by rw [tab_len, hl.out])
  have HVX := Lib.hid (tab_bit ws q)
  have HVY := Lib.hid (show ∀ k, k < 2 ^ ws.length → (tab zs q').getD k 0 = 0 ∨ (tab zs q').getD k 0 = 1 by rw [← hl.out]; exact tab_bit zs q')
  have hpw := (mk.pow4 h4).2
  have hp1 : 1 ≤ 2 ^ ws.length := Nat.one_le_two_pow
  clear hr hz h h2
  rw [hl.out] at HV2 HW2 ⊢
  clear hl
  generalize tab ws q = xs at *
  generalize tab zs q' = ys at *
  generalize 2 ^ ws.length = N at *
  go_enter Try.func33, Try.ntmps33
  go_wp2_with fail
  have x0_0 : (w.alloc (.cells #[.slice a ws.length c, .int .i64 q] 29)).cell? ⟨w.heap.size, 0, none⟩ = some (.slice a ws.length c) := cell_new _ _ _ (by simp) rfl
  have x0_1 : (w.alloc (.cells #[.slice a ws.length c, .int .i64 q] 29)).cell? ⟨w.heap.size, 1, none⟩ = some (.int .i64 q) := cell_new _ _ _ (by simp) rfl
  have HB0 := Lib.hid (below_alloc w (.cells #[.slice a ws.length c, .int .i64 q] 29))
  replace x0_0 := cell_old (.cells #[.slice a' ws.length c', .int .i64 q'] 29) x0_0
  replace x0_1 := cell_old (.cells #[.slice a' ws.length c', .int .i64 q'] 29) x0_1
  have x1_0 : ((w.alloc (.cells #[.slice a ws.length c, .int .i64 q] 29)).alloc (.cells #[.slice a' ws.length c', .int .i64 q'] 29)).cell? ⟨w.heap.size + 1, 0, none⟩ = some (.slice a' ws.length c') := cell_new _ _ _ (by simp) rfl
  have x1_1 : ((w.alloc (.cells #[.slice a ws.length c, .int .i64 q] 29)).alloc (.cells #[.slice a' ws.length c', .int .i64 q'] 29)).cell? ⟨w.heap.size + 1, 1, none⟩ = some (.int .i64 q') := cell_new _ _ _ (by simp) rfl
  replace HB0 := Lib.hid (HB0.out.alloc (by simp) (.cells #[.slice a' ws.length c', .int .i64 q'] 29))
  have s0 : w.heap.size + 2 ≤ ((w.alloc (.cells #[.slice a ws.length c, .int .i64 q] 29)).alloc (.cells #[.slice a' ws.length c', .int .i64 q'] 29)).heap.size := by simp
  generalize hw : ((w.alloc (.cells #[.slice a ws.length c, .int .i64 q] 29)).alloc (.cells #[.slice a' ws.length c', .int .i64 q'] 29)) = w0 at *
  clear hw
  have n0_0 : w.heap.size < w0.heap.size := by omega
  have n0_1 : w.heap.size + 1 < w0.heap.size := by omega
  refine (HV1.out _ HB0.out).mono ?_
  rintro e w1 ⟨rfl, hb⟩
  have s1 : w0.heap.size ≤ w1.heap.size := hb.size
  have n1_0 : w.heap.size < w1.heap.size := by omega
  have n1_1 : w.heap.size + 1 < w1.heap.size := by omega
  replace x0_0 := cell_below hb x0_0 (by omega)
  replace x0_1 := cell_below hb x0_1 (by omega)
  replace x1_0 := cell_below hb x1_0 (by omega)
  replace x1_1 := cell_below hb x1_1 (by omega)
  have HB1 := Lib.hid (HB0.out.trans (hb.mono (by omega)))
  clear hb
  go_wp2_with fail
  refine (HV2.out _ HB1.out).mono ?_
  rintro e w2 ⟨rfl, hb⟩
  have s2 : w1.heap.size ≤ w2.heap.size := hb.size
  have n2_0 : w.heap.size < w2.heap.size := by omega
  have n2_1 : w.heap.size + 1 < w2.heap.size := by omega
  replace x0_0 := cell_below hb x0_0 (by omega)
  replace x0_1 := cell_below hb x0_1 (by omega)
  replace x1_0 := cell_below hb x1_0 (by omega)
  replace x1_1 := cell_below hb x1_1 (by omega)
  have HB2 := Lib.hid (HB1.out.trans (hb.mono (by omega)))
  clear hb
  go_wp2_with fail
  refine wp_region_noPanic ?_
  refine wp_region_held_drew (S := fun w' => w'.cell? ⟨w.heap.size, 0, none⟩ = some (.slice a ws.length c) ∧ w'.cell? ⟨w.heap.size, 1, none⟩ = some (.int .i64 q) ∧ w'.cell? ⟨w.heap.size + 1, 0, none⟩ = some (.slice a' ws.length c') ∧ w'.cell? ⟨w.heap.size + 1, 1, none⟩ = some (.int .i64 q')) (by kernel_rfl) ?_ (fun hHeld => ?_)
  · exact ⟨x0_0, x0_1, x1_0, x1_1⟩
  have hb : Below w2.heap.size w2 w2.drew := (Below.refl _ _).drew
  generalize hwn : w2.drew = v11 at *
  clear hwn
  have sz11 : w2.heap.size ≤ v11.heap.size := hb.size
  replace x0_0 := cell_keep hb x0_0
  replace x0_1 := cell_keep hb x0_1
  replace x1_0 := cell_keep hb x1_0
  replace x1_1 := cell_keep hb x1_1
  have HBh11 := Lib.hid (HB2.out.trans (hb.mono (by have := HB2.out.size; omega)))
  clear hb
  refine wpAnyH_take (i := 1) (v := ?_) rfl (by kernel_rfl) (by kernel_rfl) (by kernel_rfl) (fun _ _ _ h => h) (Or.inl ⟨by rfl, ?_⟩) (by assumption) ?_
  rotate_left
  · intro w9 hSw; (try dsimp only at hSw); go_simp; try with_reducible rfl
  try simp only [List.getElem_toArray, List.getElem_cons_succ, List.getElem_cons_zero, Act.put, List.setIfInBounds_toArray, List.set_cons_zero, List.set_cons_succ]
  refine wpAnyH_take (i := 3) (v := ?_) rfl (by kernel_rfl) (by kernel_rfl) (by kernel_rfl) (fun _ _ _ h => h) (Or.inl ⟨by rfl, ?_⟩) (by assumption) ?_
  rotate_left
  · intro w9 hSw; (try dsimp only at hSw); go_simp; try with_reducible rfl
  try simp only [List.getElem_toArray, List.getElem_cons_succ, List.getElem_cons_zero, Act.put, List.setIfInBounds_toArray, List.set_cons_zero, List.set_cons_succ]
  refine wpAnyH_ready (rs := [0, 2]) (by kernel_rfl) (by simp) ?_
  refine AllReadyH.cons rfl (fun K hK => ?_) ?_
  · skip
    clear hHeld
    go_simp
    have ho : OwnI v11.heap.size (v11.heap.size + 1) (v11.alloc (.cells #[] 3)) (.slice (some ⟨v11.heap.size, 0, none⟩) 0 0) [] := own_point (OwnI.of (World.ownsRow_made (base := v11.heap.size) (e := 3) (size := 1) v11 #[] 0 (Nat.le_refl _) (by unfold maxLen; omega) rfl))
    have hb := below_alloc v11 (.cells #[] 3)
    have lt_nw := size_alloc' v11 (.cells #[] 3)
    generalize hwn : v11.alloc (.cells #[] 3) = v12 at *
    clear hwn
    have sz12 : v11.heap.size ≤ v12.heap.size := hb.size
    replace x0_0 := cell_keep hb x0_0
    replace x0_1 := cell_keep hb x0_1
    replace x1_0 := cell_keep hb x1_0
    replace x1_1 := cell_keep hb x1_1
    have HBh12 := Lib.hid (HBh11.out.trans (hb.mono (by have := HBh11.out.size; omega)))
    clear hb
    have HO := Lib.hid ho
    clear ho
    obtain ⟨Bnw, hBnw⟩ : ∃ Bnw : Nat, Bnw = v11.heap.size := ⟨_, rfl⟩
    rw [← hBnw] at HO ⊢
    have hBlnw : Bnw ≤ v11.heap.size ∧ v11.heap.size ≤ Bnw := by omega
    clear hBnw
    refine hK.out _ _ ?_ (fun hHeld => ?_)
    · exact ⟨x0_0, x0_1, x1_0, x1_1⟩
    clear hK K
    try simp only [List.getElem_toArray, List.getElem_cons_succ, List.getElem_cons_zero, Act.put, List.setIfInBounds_toArray, List.set_cons_zero, List.set_cons_succ]
    refine wpAnyH_ready (rs := [2]) (by kernel_rfl) (by simp) ?_
    refine AllReadyH.cons rfl (fun K hK => ?_) AllReadyH.nil
    clear hHeld
    go_simp
    refine (HW1.out _ HBh12.out).mono ?_
    rintro e v13 ⟨v, rfl, ho, hb⟩
    have hol := ho.slice
    obtain ⟨g1', cb1, rfl, _, _, _⟩ := hol
    have sz13 : v12.heap.size ≤ v13.heap.size := hb.size
    replace x0_0 := cell_keep hb x0_0
    replace x0_1 := cell_keep hb x0_1
    replace x1_0 := cell_keep hb x1_0
    replace x1_1 := cell_keep hb x1_1
    replace HO := Lib.hid (HO.out.below hb)
    have HBh13 := Lib.hid (HBh12.out.trans (hb.mono (by have := HBh12.out.size; omega)))
    clear hb
    rw [HLX.out] at ho
    obtain ⟨g1, hgx, _, _⟩ := own_block ho (by rw [HLX.out]; omega)
    subst hgx
    have HX := Lib.hid (own_point ho)
    have ltg1 := (ho.lt (g := g1) rfl).2.2
    have log1 := (ho.lt (g := g1) rfl).1
    clear ho
    rw [HLX.out]
    refine hK.out _ _ ?_ (fun hHeld => ?_)
    · exact ⟨x0_0, x0_1, x1_0, x1_1⟩
    clear hK K
    try simp only [List.getElem_toArray, List.getElem_cons_succ, List.getElem_cons_zero, Act.put, List.setIfInBounds_toArray, List.set_cons_zero, List.set_cons_succ]
    refine wpAnyH_ready (rs := [4]) (by kernel_rfl) (by simp) ?_
    refine AllReadyH.cons rfl (fun K hK => ?_) AllReadyH.nil
    clear hHeld
    go_simp
    refine (HW2.out _ HBh13.out).mono ?_
    rintro e v14 ⟨v, rfl, ho, hb⟩
    have hol := ho.slice
    obtain ⟨g2', cb2, rfl, _, _, _⟩ := hol
    have sz14 : v13.heap.size ≤ v14.heap.size := hb.size
    replace x0_0 := cell_keep hb x0_0
    replace x0_1 := cell_keep hb x0_1
    replace x1_0 := cell_keep hb x1_0
    replace x1_1 := cell_keep hb x1_1
    replace HO := Lib.hid (HO.out.below hb)
    replace HX := Lib.hid (HX.out.below hb)
    have HBh14 := Lib.hid (HBh13.out.trans (hb.mono (by have := HBh13.out.size; omega)))
    clear hb
    rw [HLY.out] at ho
    obtain ⟨g2, hgx, _, _⟩ := own_block ho (by rw [HLY.out]; omega)
    subst hgx
    have HY := Lib.hid (own_point ho)
    have ltg2 := (ho.lt (g := g2) rfl).2.2
    have log2 := (ho.lt (g := g2) rfl).1
    clear ho
    rw [HLY.out]
    refine hK.out _ _ ?_ (fun hHeld => ?_)
    · exact ⟨x0_0, x0_1, x1_0, x1_1⟩
    clear hK K
    try simp only [List.getElem_toArray, List.getElem_cons_succ, List.getElem_cons_zero, Act.put, List.setIfInBounds_toArray, List.set_cons_zero, List.set_cons_succ]
    refine wpAnyH_take (i := 5) (v := ?_) rfl (by kernel_rfl) (by kernel_rfl) (by kernel_rfl) (fun _ _ _ h => h) (Or.inl ⟨by rfl, ?_⟩) (by assumption) ?_
    rotate_left
    · intro w9 hSw; (try dsimp only at hSw); go_simp; try with_reducible rfl
    try simp only [List.getElem_toArray, List.getElem_cons_succ, List.getElem_cons_zero, Act.put, List.setIfInBounds_toArray, List.set_cons_zero, List.set_cons_succ]
    refine wpAnyH_take (i := 6) (v := ?_) rfl (by kernel_rfl) (by kernel_rfl) (by kernel_rfl) (fun _ _ _ h => h) (Or.inl ⟨by rfl, ?_⟩) (by assumption) ?_
    rotate_left
    · intro w9 hSw; (try dsimp only at hSw); go_simp; try with_reducible rfl
    try simp only [List.getElem_toArray, List.getElem_cons_succ, List.getElem_cons_zero, Act.put, List.setIfInBounds_toArray, List.set_cons_zero, List.set_cons_succ]
    refine wpAnyH_take (i := 7) (v := ?_) rfl (by kernel_rfl) (by kernel_rfl) (by kernel_rfl) (fun _ _ _ h => h) (Or.inl ⟨by rfl, ?_⟩) (by assumption) ?_
    rotate_left
    · intro w9 hSw; (try dsimp only at hSw); go_simp; try with_reducible rfl
    try simp only [List.getElem_toArray, List.getElem_cons_succ, List.getElem_cons_zero, Act.put, List.setIfInBounds_toArray, List.set_cons_zero, List.set_cons_succ]
    refine wpAnyH_done (by kernel_rfl) ?_ _
    refine NoPanic.normal ?_
    clear hHeld
    clear HW1 HW2 HV1 HV2 x0_0 x0_1 x1_0 x1_1
    have HBE := Lib.hid HBh14.out
    have hsE := HBh14.out.size
    go_wp2_with fail
    go_loopw [6, 9] (fun v i wr => ∃ (k gg gc : Nat), k ≤ N ∧ i = .int .i64 k ∧ v = .slice (some ⟨gg, 0, none⟩) (preTo xs ys k).length gc ∧ OwnI gg (gg + 1) wr (.slice (some ⟨gg, 0, none⟩) (preTo xs ys k).length gc) (preTo xs ys k) ∧ gg ≠ g1 ∧ gg ≠ g2 ∧ w.heap.size ≤ gg ∧ OwnI g1 (g1 + 1) wr (.slice (some ⟨g1, 0, none⟩) N cb1) xs ∧ OwnI g2 (g2 + 1) wr (.slice (some ⟨g2, 0, none⟩) N cb2) ys ∧ Below w.heap.size w wr) (fun _ i _ => N - (intOf i).toNat)
    case atStart => exact ⟨0, Bnw, 0, Nat.zero_le _, rfl, rfl, HO.out, by omega, by omega, by omega, HX.out, HY.out, HBE.out⟩
    case round =>
      clear HO HX HY
      obtain ⟨k, gg0, gc0, hk, rfl, rfl, ho, hg1, hg2, hgw, hx, hy, hbel⟩ := hrel
      have HO := Lib.hid ho
      have HX := Lib.hid hx
      have HY := Lib.hid hy
      have HBl := Lib.hid hbel
      have hlg := (ho.lt (g := gg0) rfl).2.2
      have hl1 := (hx.lt (g := g1) rfl).2.2
      have hl2 := (hy.lt (g := g2) rfl).2.2
      have hlen := preTo_length xs ys k
      by_cases hlt : k < N
      · have c1 := own_cell hx HLX.out.symm k (by rw [HLX.out]; exact hlt)
        have c2 := own_cell hy HLY.out.symm k (by rw [HLY.out]; exact hlt)
        have bx := HVX.out k hlt
        have by' := HVY.out k hlt
        have HM := Lib.hid (preTo_succ xs ys k)
        have hm9 : (preTo xs ys k).length ≤ 256 := by omega
        clear ho hx hy hbel HBE hlen
        generalize preTo xs ys k = ms at *
        have i1 : (0 : Int) ≤ (k : Int) := by omega
        have i2 : (k : Int) < (N : Int) := by omega
        have e1 : IntKind.i64.wrap (xs.getD k 0 * ys.getD k 0) = xs.getD k 0 * ys.getD k 0 := by
          rcases bx with hx | hx <;> rcases by' with hy | hy <;> rw [hx, hy] <;> decide
        generalize xs.getD k 0 = x at *
        generalize ys.getD k 0 = y at *
        go_wp2_with fail
        refine wp_region_noPanic ?_
        refine wp_region_held_drew (S := fun w' => w'.cell? ⟨g1, k, none⟩ = some (.int .i64 x) ∧ w'.cell? ⟨g2, k, none⟩ = some (.int .i64 y)) (by kernel_rfl) ?_ (fun hHeld => ?_)
        · exact ⟨c1, c2⟩
        have hb : Below wr.heap.size wr wr.drew := (Below.refl _ _).drew
        generalize hwn : wr.drew = v31 at *
        clear hwn
        have sz31 : wr.heap.size ≤ v31.heap.size := hb.size
        replace c1 := cell_keep hb c1
        replace c2 := cell_keep hb c2
        replace HX := Lib.hid (HX.out.below hb)
        replace HY := Lib.hid (HY.out.below hb)
        replace HO := Lib.hid (HO.out.below hb)
        have HBh31 := Lib.hid (HBl.out.trans (hb.mono (by have := HBl.out.size; omega)))
        clear hb
        refine wpAnyH_take (i := 0) (v := ?_) rfl (by kernel_rfl) (by kernel_rfl) (by kernel_rfl) (fun _ _ _ h => h) (Or.inl ⟨by rfl, ?_⟩) (by assumption) ?_
        rotate_left
        · intro w9 hSw; (try dsimp only at hSw); go_simp; try with_reducible rfl
        try simp only [List.getElem_toArray, List.getElem_cons_succ, List.getElem_cons_zero, Act.put, List.setIfInBounds_toArray, List.set_cons_zero, List.set_cons_succ]
        refine wpAnyH_take (i := 1) (v := ?_) rfl (by kernel_rfl) (by kernel_rfl) (by kernel_rfl) (fun _ _ _ h => h) (Or.inl ⟨by rfl, ?_⟩) (by assumption) ?_
        rotate_left
        · intro w9 hSw; (try dsimp only at hSw); go_simp; try with_reducible rfl
        try simp only [List.getElem_toArray, List.getElem_cons_succ, List.getElem_cons_zero, Act.put, List.setIfInBounds_toArray, List.set_cons_zero, List.set_cons_succ]
        refine wpAnyH_take (i := 2) (v := ?_) rfl (by kernel_rfl) (by kernel_rfl) (by kernel_rfl) (fun _ _ _ h => h) (Or.inl ⟨by rfl, ?_⟩) (by assumption) ?_
        rotate_left
        · intro w9 hSw; (try dsimp only at hSw); go_simp; try with_reducible rfl
        try simp only [List.getElem_toArray, List.getElem_cons_succ, List.getElem_cons_zero, Act.put, List.setIfInBounds_toArray, List.set_cons_zero, List.set_cons_succ]
        refine wpAnyH_take (i := 3) (v := ?_) rfl (by kernel_rfl) (by kernel_rfl) (by kernel_rfl) (fun _ _ _ h => h) (Or.inl ⟨by rfl, ?_⟩) (by assumption) ?_
        rotate_left
        · intro w9 hSw; (try dsimp only at hSw); go_simp; try with_reducible rfl
        try simp only [List.getElem_toArray, List.getElem_cons_succ, List.getElem_cons_zero, Act.put, List.setIfInBounds_toArray, List.set_cons_zero, List.set_cons_succ]
        refine wpAnyH_take (i := 4) (v := ?_) rfl (by kernel_rfl) (by kernel_rfl) (by kernel_rfl) (fun _ _ _ h => h) (Or.inl ⟨by rfl, ?_⟩) (by assumption) ?_
        rotate_left
        · intro w9 hSw; (try dsimp only at hSw); go_simp; try with_reducible rfl
        try simp only [List.getElem_toArray, List.getElem_cons_succ, List.getElem_cons_zero, Act.put, List.setIfInBounds_toArray, List.set_cons_zero, List.set_cons_succ]
        refine wpAnyH_take (i := 5) (v := ?_) rfl (by kernel_rfl) (by kernel_rfl) (by kernel_rfl) (fun _ _ _ h => h) (Or.inl ⟨by rfl, ?_⟩) (by assumption) ?_
        rotate_left
        · intro w9 hSw; (try dsimp only at hSw); go_simp; try with_reducible rfl
        try simp only [List.getElem_toArray, List.getElem_cons_succ, List.getElem_cons_zero, Act.put, List.setIfInBounds_toArray, List.set_cons_zero, List.set_cons_succ]
        refine wpAnyH_take (i := 6) (v := ?_) rfl (by kernel_rfl) (by kernel_rfl) (by kernel_rfl) (fun _ _ _ h => h) (Or.inl ⟨by rfl, ?_⟩) (by assumption) ?_
        rotate_left
        · intro w9 hSw; (try dsimp only at hSw); go_simp; try with_reducible rfl
        try simp only [List.getElem_toArray, List.getElem_cons_succ, List.getElem_cons_zero, Act.put, List.setIfInBounds_toArray, List.set_cons_zero, List.set_cons_succ]
        refine wpAnyH_take (i := 7) (v := ?_) rfl (by kernel_rfl) (by kernel_rfl) (by kernel_rfl) (fun _ _ _ h => h) (Or.inl ⟨by rfl, ?_⟩) (by assumption) ?_
        rotate_left
        · intro w9 hSw; (try dsimp only at hSw); go_simp; try with_reducible rfl
        try simp only [List.getElem_toArray, List.getElem_cons_succ, List.getElem_cons_zero, Act.put, List.setIfInBounds_toArray, List.set_cons_zero, List.set_cons_succ]
        refine wpAnyH_take (i := 8) (v := ?_) rfl (by kernel_rfl) (by kernel_rfl) (by kernel_rfl) (fun _ _ _ h => h) (Or.inl ⟨by rfl, ?_⟩) (by assumption) ?_
        rotate_left
        · intro w9 hSw; (try dsimp only at hSw); go_simp; try with_reducible rfl
        try simp only [List.getElem_toArray, List.getElem_cons_succ, List.getElem_cons_zero, Act.put, List.setIfInBounds_toArray, List.set_cons_zero, List.set_cons_succ]
        refine wpAnyH_take (i := 9) (v := ?_) rfl (by kernel_rfl) (by kernel_rfl) (by kernel_rfl) (fun _ _ _ h => h) (Or.inl ⟨by rfl, ?_⟩) (by assumption) ?_
        rotate_left
        · intro w9 hSw; (try dsimp only at hSw); go_simp; try with_reducible rfl
        try simp only [List.getElem_toArray, List.getElem_cons_succ, List.getElem_cons_zero, Act.put, List.setIfInBounds_toArray, List.set_cons_zero, List.set_cons_succ]
        refine wpAnyH_ready (rs := [10]) (by kernel_rfl) (by simp) ?_
        refine AllReadyH.cons rfl (fun K hK => ?_) AllReadyH.nil
        clear hHeld
        go_simp
        have nx_0 : (v31.alloc (.cells #[.int .i64 (x * y)] 3)).cell? ⟨v31.heap.size, 0, none⟩ = some (.int .i64 (x * y)) := cell_new _ _ _ rfl rfl
        have nx_f0 : (v31.alloc (.cells #[.int .i64 (x * y)] 3)).frozen? ⟨v31.heap.size, 0, none⟩ = false := fro_new _ _ _ rfl
        have hb := below_alloc v31 (.cells #[.int .i64 (x * y)] 3)
        have lt_nx := size_alloc' v31 (.cells #[.int .i64 (x * y)] 3)
        generalize hwn : v31.alloc (.cells #[.int .i64 (x * y)] 3) = v32 at *
        clear hwn
        have sz32 : v31.heap.size ≤ v32.heap.size := hb.size
        replace c1 := cell_keep hb c1
        replace c2 := cell_keep hb c2
        replace HX := Lib.hid (HX.out.below hb)
        replace HY := Lib.hid (HY.out.below hb)
        replace HO := Lib.hid (HO.out.below hb)
        have HBh32 := Lib.hid (HBh31.out.trans (hb.mono (by have := HBh31.out.size; omega)))
        clear hb
        obtain ⟨Bnx, hBnx⟩ : ∃ Bnx : Nat, Bnx = v31.heap.size := ⟨_, rfl⟩
        rw [← hBnx] at nx_0 nx_f0 ⊢
        have hBlnx : Bnx ≤ v31.heap.size ∧ v31.heap.size ≤ Bnx := by omega
        clear hBnx
        refine hK.out _ _ ?_ (fun hHeld => ?_)
        · exact ⟨c1, c2⟩
        clear hK K
        try simp only [List.getElem_toArray, List.getElem_cons_succ, List.getElem_cons_zero, Act.put, List.setIfInBounds_toArray, List.set_cons_zero, List.set_cons_succ]
        refine wpAnyH_ready (rs := [11]) (by kernel_rfl) (by simp) ?_
        refine AllReadyH.cons rfl (fun K hK => ?_) AllReadyH.nil
        clear hHeld
        have hrow33 : ∀ g, (Value.slice (some ⟨gg0, 0, none⟩) ms.length gc0).ownBlock = some g → gg0 ≤ g ∧ g < (gg0 + 1) ∧ g < v32.heap.size := fun g e => HO.out.lt e
        have hlo33 : gg0 ≤ v32.heap.size := by omega
        refine step_append_lies _ (by rfl) _ _ _ (by rfl) (gg0) 3 i0 _ 1 8 Try.underlying22 hi hz0 hz1 hz2 rfl (by omega) (.slice (some ⟨gg0, 0, none⟩) ms.length gc0) ms.length (ms.map (Value.int .i64)) (by rfl) HO.out.1 ⟨Bnx, 0, none⟩ 1 1 [.int .i64 (x * y)] (by rfl) (by rfl) (fun j u hj => by (have h7 : j = 0 := by (have := (List.getElem?_eq_some_iff.1 hj).1; simp at this; exact this)); subst h7; simp at hj; subst hj; simpa [Addr.add] using nx_0) (by simp [Value.oneCell']) (by omega) (by unfold maxLen; omega) (by omega) hlo33 v32.heap.size rfl ?_
        intro gg gc v33 hown hg hat hlt9
        have sz33 : v32.heap.size ≤ v33.heap.size := hg.size
        replace nx_f0 := fro_grow hg nx_0 nx_f0 (fun g e => by have := hrow33 g e; omega)
        replace c1 := cell_grow hg c1 (fun g e => by have := hrow33 g e; omega)
        replace c2 := cell_grow hg c2 (fun g e => by have := hrow33 g e; omega)
        replace nx_0 := cell_grow hg nx_0 (fun g e => by have := hrow33 g e; omega)
        replace HX := Lib.hid (own_grow hg HX.out (fun g e => by have := hrow33 g e; omega))
        replace HY := Lib.hid (own_grow hg HY.out (fun g e => by have := hrow33 g e; omega))
        have HBh33 := Lib.hid (HBh32.out.grown hg (by have := HBh32.out.size; omega) (fun g e => by have := hrow33 g e; omega))
        have HO2 := Lib.hid (own_narrow hown)
        have hgg33 : (gg0 ≤ gg ∧ gg < (gg0 + 1)) ∨ gg = v32.heap.size := by (rcases hat with e | e); (have := hrow33 gg e; exact .inl ⟨this.1, this.2.1⟩); exact .inr e
        clear hown hg hat hrow33 HO
        refine hK.out _ _ ?_ (fun hHeld => ?_)
        · exact ⟨c1, c2⟩
        clear hK K
        try simp only [List.getElem_toArray, List.getElem_cons_succ, List.getElem_cons_zero, Act.put, List.setIfInBounds_toArray, List.set_cons_zero, List.set_cons_succ]
        refine wpAnyH_take (i := 12) (v := ?_) rfl (by kernel_rfl) (by kernel_rfl) (by kernel_rfl) (fun _ _ _ h => h) (Or.inl ⟨by rfl, ?_⟩) (by assumption) ?_
        rotate_left
        · intro w9 hSw; (try dsimp only at hSw); go_simp; try with_reducible rfl
        try simp only [List.getElem_toArray, List.getElem_cons_succ, List.getElem_cons_zero, Act.put, List.setIfInBounds_toArray, List.set_cons_zero, List.set_cons_succ]
        refine wpAnyH_done (by kernel_rfl) ?_ _
        refine NoPanic.normal ?_
        clear hHeld
        go_wp2_with fail
        go_roundw
        case rel => exact ⟨k + 1, gg, gc, by omega, by go_num, by rw [HM.out, List.length_append]; rfl, by rw [HM.out, List.length_append]; exact HO2.out, by omega, by omega, by omega, HX.out, HY.out, HBh33.out⟩
        case measure => simp [intOf]; omega
      · obtain rfl : k = N := by omega
        have hR : RetIB (preTo xs ys k) true w (.returned (.tuple #[.slice (some ⟨gg0, 0, none⟩) (preTo xs ys k).length gc0, .bool true])) wr := ⟨_, rfl, ho.mono hgw (by omega), hbel⟩
        have HF := Lib.hid hR
        clear hR ho hx hy hbel HBE hlen HO HX HY HBl
        have HGM := Lib.hid (show preTo xs ys xs.length = preTo xs ys k by rw [HLX.out])
        generalize preTo xs ys k = ms at *
        go_wp2_with fail
        go_ret2
        rw [HGM.out]
        exact HF.out
  refine AllReadyH.cons rfl (fun K hK => ?_) AllReadyH.nil
  clear hHeld
  go_simp
  refine (HW1.out _ HBh11.out).mono ?_
  rintro e v12 ⟨v, rfl, ho, hb⟩
  have hol := ho.slice
  obtain ⟨g1', cb1, rfl, _, _, _⟩ := hol
  have sz12 : v11.heap.size ≤ v12.heap.size := hb.size
  replace x0_0 := cell_keep hb x0_0
  replace x0_1 := cell_keep hb x0_1
  replace x1_0 := cell_keep hb x1_0
  replace x1_1 := cell_keep hb x1_1
  have HBh12 := Lib.hid (HBh11.out.trans (hb.mono (by have := HBh11.out.size; omega)))
  clear hb
  rw [HLX.out] at ho
  obtain ⟨g1, hgx, _, _⟩ := own_block ho (by rw [HLX.out]; omega)
  subst hgx
  have HX := Lib.hid (own_point ho)
  have ltg1 := (ho.lt (g := g1) rfl).2.2
  have log1 := (ho.lt (g := g1) rfl).1
  clear ho
  rw [HLX.out]
  refine hK.out _ _ ?_ (fun hHeld => ?_)
  · exact ⟨x0_0, x0_1, x1_0, x1_1⟩
  clear hK K
  try simp only [List.getElem_toArray, List.getElem_cons_succ, List.getElem_cons_zero, Act.put, List.setIfInBounds_toArray, List.set_cons_zero, List.set_cons_succ]
  refine wpAnyH_ready (rs := [0, 4]) (by kernel_rfl) (by simp) ?_
  refine AllReadyH.cons rfl (fun K hK => ?_) ?_
  · skip
    clear hHeld
    go_simp
    have ho : OwnI v12.heap.size (v12.heap.size + 1) (v12.alloc (.cells #[] 3)) (.slice (some ⟨v12.heap.size, 0, none⟩) 0 0) [] := own_point (OwnI.of (World.ownsRow_made (base := v12.heap.size) (e := 3) (size := 1) v12 #[] 0 (Nat.le_refl _) (by unfold maxLen; omega) rfl))
    have hb := below_alloc v12 (.cells #[] 3)
    have lt_nw := size_alloc' v12 (.cells #[] 3)
    generalize hwn : v12.alloc (.cells #[] 3) = v13 at *
    clear hwn
    have sz13 : v12.heap.size ≤ v13.heap.size := hb.size
    replace x0_0 := cell_keep hb x0_0
    replace x0_1 := cell_keep hb x0_1
    replace x1_0 := cell_keep hb x1_0
    replace x1_1 := cell_keep hb x1_1
    replace HX := Lib.hid (HX.out.below hb)
    have HBh13 := Lib.hid (HBh12.out.trans (hb.mono (by have := HBh12.out.size; omega)))
    clear hb
    have HO := Lib.hid ho
    clear ho
    obtain ⟨Bnw, hBnw⟩ : ∃ Bnw : Nat, Bnw = v12.heap.size := ⟨_, rfl⟩
    rw [← hBnw] at HO ⊢
    have hBlnw : Bnw ≤ v12.heap.size ∧ v12.heap.size ≤ Bnw := by omega
    clear hBnw
    refine hK.out _ _ ?_ (fun hHeld => ?_)
    · exact ⟨x0_0, x0_1, x1_0, x1_1⟩
    clear hK K
    try simp only [List.getElem_toArray, List.getElem_cons_succ, List.getElem_cons_zero, Act.put, List.setIfInBounds_toArray, List.set_cons_zero, List.set_cons_succ]
    refine wpAnyH_ready (rs := [4]) (by kernel_rfl) (by simp) ?_
    refine AllReadyH.cons rfl (fun K hK => ?_) AllReadyH.nil
    clear hHeld
    go_simp
    refine (HW2.out _ HBh13.out).mono ?_
    rintro e v14 ⟨v, rfl, ho, hb⟩
    have hol := ho.slice
    obtain ⟨g2', cb2, rfl, _, _, _⟩ := hol
    have sz14 : v13.heap.size ≤ v14.heap.size := hb.size
    replace x0_0 := cell_keep hb x0_0
    replace x0_1 := cell_keep hb x0_1
    replace x1_0 := cell_keep hb x1_0
    replace x1_1 := cell_keep hb x1_1
    replace HX := Lib.hid (HX.out.below hb)
    replace HO := Lib.hid (HO.out.below hb)
    have HBh14 := Lib.hid (HBh13.out.trans (hb.mono (by have := HBh13.out.size; omega)))
    clear hb
    rw [HLY.out] at ho
    obtain ⟨g2, hgx, _, _⟩ := own_block ho (by rw [HLY.out]; omega)
    subst hgx
    have HY := Lib.hid (own_point ho)
    have ltg2 := (ho.lt (g := g2) rfl).2.2
    have log2 := (ho.lt (g := g2) rfl).1
    clear ho
    rw [HLY.out]
    refine hK.out _ _ ?_ (fun hHeld => ?_)
    · exact ⟨x0_0, x0_1, x1_0, x1_1⟩
    clear hK K
    try simp only [List.getElem_toArray, List.getElem_cons_succ, List.getElem_cons_zero, Act.put, List.setIfInBounds_toArray, List.set_cons_zero, List.set_cons_succ]
    refine wpAnyH_take (i := 5) (v := ?_) rfl (by kernel_rfl) (by kernel_rfl) (by kernel_rfl) (fun _ _ _ h => h) (Or.inl ⟨by rfl, ?_⟩) (by assumption) ?_
    rotate_left
    · intro w9 hSw; (try dsimp only at hSw); go_simp; try with_reducible rfl
    try simp only [List.getElem_toArray, List.getElem_cons_succ, List.getElem_cons_zero, Act.put, List.setIfInBounds_toArray, List.set_cons_zero, List.set_cons_succ]
    refine wpAnyH_take (i := 6) (v := ?_) rfl (by kernel_rfl) (by kernel_rfl) (by kernel_rfl) (fun _ _ _ h => h) (Or.inl ⟨by rfl, ?_⟩) (by assumption) ?_
    rotate_left
    · intro w9 hSw; (try dsimp only at hSw); go_simp; try with_reducible rfl
    try simp only [List.getElem_toArray, List.getElem_cons_succ, List.getElem_cons_zero, Act.put, List.setIfInBounds_toArray, List.set_cons_zero, List.set_cons_succ]
    refine wpAnyH_take (i := 7) (v := ?_) rfl (by kernel_rfl) (by kernel_rfl) (by kernel_rfl) (fun _ _ _ h => h) (Or.inl ⟨by rfl, ?_⟩) (by assumption) ?_
    rotate_left
    · intro w9 hSw; (try dsimp only at hSw); go_simp; try with_reducible rfl
    try simp only [List.getElem_toArray, List.getElem_cons_succ, List.getElem_cons_zero, Act.put, List.setIfInBounds_toArray, List.set_cons_zero, List.set_cons_succ]
    refine wpAnyH_done (by kernel_rfl) ?_ _
    refine NoPanic.normal ?_
    clear hHeld
    clear HW1 HW2 HV1 HV2 x0_0 x0_1 x1_0 x1_1
    have HBE := Lib.hid HBh14.out
    have hsE := HBh14.out.size
    go_wp2_with fail
    go_loopw [6, 9] (fun v i wr => ∃ (k gg gc : Nat), k ≤ N ∧ i = .int .i64 k ∧ v = .slice (some ⟨gg, 0, none⟩) (preTo xs ys k).length gc ∧ OwnI gg (gg + 1) wr (.slice (some ⟨gg, 0, none⟩) (preTo xs ys k).length gc) (preTo xs ys k) ∧ gg ≠ g1 ∧ gg ≠ g2 ∧ w.heap.size ≤ gg ∧ OwnI g1 (g1 + 1) wr (.slice (some ⟨g1, 0, none⟩) N cb1) xs ∧ OwnI g2 (g2 + 1) wr (.slice (some ⟨g2, 0, none⟩) N cb2) ys ∧ Below w.heap.size w wr) (fun _ i _ => N - (intOf i).toNat)
    case atStart => exact ⟨0, Bnw, 0, Nat.zero_le _, rfl, rfl, HO.out, by omega, by omega, by omega, HX.out, HY.out, HBE.out⟩
    case round =>
      clear HO HX HY
      obtain ⟨k, gg0, gc0, hk, rfl, rfl, ho, hg1, hg2, hgw, hx, hy, hbel⟩ := hrel
      have HO := Lib.hid ho
      have HX := Lib.hid hx
      have HY := Lib.hid hy
      have HBl := Lib.hid hbel
      have hlg := (ho.lt (g := gg0) rfl).2.2
      have hl1 := (hx.lt (g := g1) rfl).2.2
      have hl2 := (hy.lt (g := g2) rfl).2.2
      have hlen := preTo_length xs ys k
      by_cases hlt : k < N
      · have c1 := own_cell hx HLX.out.symm k (by rw [HLX.out]; exact hlt)
        have c2 := own_cell hy HLY.out.symm k (by rw [HLY.out]; exact hlt)
        have bx := HVX.out k hlt
        have by' := HVY.out k hlt
        have HM := Lib.hid (preTo_succ xs ys k)
        have hm9 : (preTo xs ys k).length ≤ 256 := by omega
        clear ho hx hy hbel HBE hlen
        generalize preTo xs ys k = ms at *
        have i1 : (0 : Int) ≤ (k : Int) := by omega
        have i2 : (k : Int) < (N : Int) := by omega
        have e1 : IntKind.i64.wrap (xs.getD k 0 * ys.getD k 0) = xs.getD k 0 * ys.getD k 0 := by
          rcases bx with hx | hx <;> rcases by' with hy | hy <;> rw [hx, hy] <;> decide
        generalize xs.getD k 0 = x at *
        generalize ys.getD k 0 = y at *
        go_wp2_with fail
        refine wp_region_noPanic ?_
        refine wp_region_held_drew (S := fun w' => w'.cell? ⟨g1, k, none⟩ = some (.int .i64 x) ∧ w'.cell? ⟨g2, k, none⟩ = some (.int .i64 y)) (by kernel_rfl) ?_ (fun hHeld => ?_)
        · exact ⟨c1, c2⟩
        have hb : Below wr.heap.size wr wr.drew := (Below.refl _ _).drew
        generalize hwn : wr.drew = v31 at *
        clear hwn
        have sz31 : wr.heap.size ≤ v31.heap.size := hb.size
        replace c1 := cell_keep hb c1
        replace c2 := cell_keep hb c2
        replace HX := Lib.hid (HX.out.below hb)
        replace HY := Lib.hid (HY.out.below hb)
        replace HO := Lib.hid (HO.out.below hb)
        have HBh31 := Lib.hid (HBl.out.trans (hb.mono (by have := HBl.out.size; omega)))
        clear hb
        refine wpAnyH_take (i := 0) (v := ?_) rfl (by kernel_rfl) (by kernel_rfl) (by kernel_rfl) (fun _ _ _ h => h) (Or.inl ⟨by rfl, ?_⟩) (by assumption) ?_
        rotate_left
        · intro w9 hSw; (try dsimp only at hSw); go_simp; try with_reducible rfl
        try simp only [List.getElem_toArray, List.getElem_cons_succ, List.getElem_cons_zero, Act.put, List.setIfInBounds_toArray, List.set_cons_zero, List.set_cons_succ]
        refine wpAnyH_take (i := 1) (v := ?_) rfl (by kernel_rfl) (by kernel_rfl) (by kernel_rfl) (fun _ _ _ h => h) (Or.inl ⟨by rfl, ?_⟩) (by assumption) ?_
        rotate_left
        · intro w9 hSw; (try dsimp only at hSw); go_simp; try with_reducible rfl
        try simp only [List.getElem_toArray, List.getElem_cons_succ, List.getElem_cons_zero, Act.put, List.setIfInBounds_toArray, List.set_cons_zero, List.set_cons_succ]
        refine wpAnyH_take (i := 2) (v := ?_) rfl (by kernel_rfl) (by kernel_rfl) (by kernel_rfl) (fun _ _ _ h => h) (Or.inl ⟨by rfl, ?_⟩) (by assumption) ?_
        rotate_left
        · intro w9 hSw; (try dsimp only at hSw); go_simp; try with_reducible rfl
        try simp only [List.getElem_toArray, List.getElem_cons_succ, List.getElem_cons_zero, Act.put, List.setIfInBounds_toArray, List.set_cons_zero, List.set_cons_succ]
        refine wpAnyH_take (i := 3) (v := ?_) rfl (by kernel_rfl) (by kernel_rfl) (by kernel_rfl) (fun _ _ _ h => h) (Or.inl ⟨by rfl, ?_⟩) (by assumption) ?_
        rotate_left
        · intro w9 hSw; (try dsimp only at hSw); go_simp; try with_reducible rfl
        try simp only [List.getElem_toArray, List.getElem_cons_succ, List.getElem_cons_zero, Act.put, List.setIfInBounds_toArray, List.set_cons_zero, List.set_cons_succ]
        refine wpAnyH_take (i := 4) (v := ?_) rfl (by kernel_rfl) (by kernel_rfl) (by kernel_rfl) (fun _ _ _ h => h) (Or.inl ⟨by rfl, ?_⟩) (by assumption) ?_
        rotate_left
        · intro w9 hSw; (try dsimp only at hSw); go_simp; try with_reducible rfl
        try simp only [List.getElem_toArray, List.getElem_cons_succ, List.getElem_cons_zero, Act.put, List.setIfInBounds_toArray, List.set_cons_zero, List.set_cons_succ]
        refine wpAnyH_take (i := 5) (v := ?_) rfl (by kernel_rfl) (by kernel_rfl) (by kernel_rfl) (fun _ _ _ h => h) (Or.inl ⟨by rfl, ?_⟩) (by assumption) ?_
        rotate_left
        · intro w9 hSw; (try dsimp only at hSw); go_simp; try with_reducible rfl
        try simp only [List.getElem_toArray, List.getElem_cons_succ, List.getElem_cons_zero, Act.put, List.setIfInBounds_toArray, List.set_cons_zero, List.set_cons_succ]
        refine wpAnyH_take (i := 6) (v := ?_) rfl (by kernel_rfl) (by kernel_rfl) (by kernel_rfl) (fun _ _ _ h => h) (Or.inl ⟨by rfl, ?_⟩) (by assumption) ?_
        rotate_left
        · intro w9 hSw; (try dsimp only at hSw); go_simp; try with_reducible rfl
        try simp only [List.getElem_toArray, List.getElem_cons_succ, List.getElem_cons_zero, Act.put, List.setIfInBounds_toArray, List.set_cons_zero, List.set_cons_succ]
        refine wpAnyH_take (i := 7) (v := ?_) rfl (by kernel_rfl) (by kernel_rfl) (by kernel_rfl) (fun _ _ _ h => h) (Or.inl ⟨by rfl, ?_⟩) (by assumption) ?_
        rotate_left
        · intro w9 hSw; (try dsimp only at hSw); go_simp; try with_reducible rfl
        try simp only [List.getElem_toArray, List.getElem_cons_succ, List.getElem_cons_zero, Act.put, List.setIfInBounds_toArray, List.set_cons_zero, List.set_cons_succ]
        refine wpAnyH_take (i := 8) (v := ?_) rfl (by kernel_rfl) (by kernel_rfl) (by kernel_rfl) (fun _ _ _ h => h) (Or.inl ⟨by rfl, ?_⟩) (by assumption) ?_
        rotate_left
        · intro w9 hSw; (try dsimp only at hSw); go_simp; try with_reducible rfl
        try simp only [List.getElem_toArray, List.getElem_cons_succ, List.getElem_cons_zero, Act.put, List.setIfInBounds_toArray, List.set_cons_zero, List.set_cons_succ]
        refine wpAnyH_take (i := 9) (v := ?_) rfl (by kernel_rfl) (by kernel_rfl) (by kernel_rfl) (fun _ _ _ h => h) (Or.inl ⟨by rfl, ?_⟩) (by assumption) ?_
        rotate_left
        · intro w9 hSw; (try dsimp only at hSw); go_simp; try with_reducible rfl
        try simp only [List.getElem_toArray, List.getElem_cons_succ, List.getElem_cons_zero, Act.put, List.setIfInBounds_toArray, List.set_cons_zero, List.set_cons_succ]
        refine wpAnyH_ready (rs := [10]) (by kernel_rfl) (by simp) ?_
        refine AllReadyH.cons rfl (fun K hK => ?_) AllReadyH.nil
        clear hHeld
        go_simp
        have nx_0 : (v31.alloc (.cells #[.int .i64 (x * y)] 3)).cell? ⟨v31.heap.size, 0, none⟩ = some (.int .i64 (x * y)) := cell_new _ _ _ rfl rfl
        have nx_f0 : (v31.alloc (.cells #[.int .i64 (x * y)] 3)).frozen? ⟨v31.heap.size, 0, none⟩ = false := fro_new _ _ _ rfl
        have hb := below_alloc v31 (.cells #[.int .i64 (x * y)] 3)
        have lt_nx := size_alloc' v31 (.cells #[.int .i64 (x * y)] 3)
        generalize hwn : v31.alloc (.cells #[.int .i64 (x * y)] 3) = v32 at *
        clear hwn
        have sz32 : v31.heap.size ≤ v32.heap.size := hb.size
        replace c1 := cell_keep hb c1
        replace c2 := cell_keep hb c2
        replace HX := Lib.hid (HX.out.below hb)
        replace HY := Lib.hid (HY.out.below hb)
        replace HO := Lib.hid (HO.out.below hb)
        have HBh32 := Lib.hid (HBh31.out.trans (hb.mono (by have := HBh31.out.size; omega)))
        clear hb
        obtain ⟨Bnx, hBnx⟩ : ∃ Bnx : Nat, Bnx = v31.heap.size := ⟨_, rfl⟩
        rw [← hBnx] at nx_0 nx_f0 ⊢
        have hBlnx : Bnx ≤ v31.heap.size ∧ v31.heap.size ≤ Bnx := by omega
        clear hBnx
        refine hK.out _ _ ?_ (fun hHeld => ?_)
        · exact ⟨c1, c2⟩
        clear hK K
        try simp only [List.getElem_toArray, List.getElem_cons_succ, List.getElem_cons_zero, Act.put, List.setIfInBounds_toArray, List.set_cons_zero, List.set_cons_succ]
        refine wpAnyH_ready (rs := [11]) (by kernel_rfl) (by simp) ?_
        refine AllReadyH.cons rfl (fun K hK => ?_) AllReadyH.nil
        clear hHeld
        have hrow33 : ∀ g, (Value.slice (some ⟨gg0, 0, none⟩) ms.length gc0).ownBlock = some g → gg0 ≤ g ∧ g < (gg0 + 1) ∧ g < v32.heap.size := fun g e => HO.out.lt e
        have hlo33 : gg0 ≤ v32.heap.size := by omega
        refine step_append_lies _ (by rfl) _ _ _ (by rfl) (gg0) 3 i0 _ 1 8 Try.underlying22 hi hz0 hz1 hz2 rfl (by omega) (.slice (some ⟨gg0, 0, none⟩) ms.length gc0) ms.length (ms.map (Value.int .i64)) (by rfl) HO.out.1 ⟨Bnx, 0, none⟩ 1 1 [.int .i64 (x * y)] (by rfl) (by rfl) (fun j u hj => by (have h7 : j = 0 := by (have := (List.getElem?_eq_some_iff.1 hj).1; simp at this; exact this)); subst h7; simp at hj; subst hj; simpa [Addr.add] using nx_0) (by simp [Value.oneCell']) (by omega) (by unfold maxLen; omega) (by omega) hlo33 v32.heap.size rfl ?_
        intro gg gc v33 hown hg hat hlt9
        have sz33 : v32.heap.size ≤ v33.heap.size := hg.size
        replace nx_f0 := fro_grow hg nx_0 nx_f0 (fun g e => by have := hrow33 g e; omega)
        replace c1 := cell_grow hg c1 (fun g e => by have := hrow33 g e; omega)
        replace c2 := cell_grow hg c2 (fun g e => by have := hrow33 g e; omega)
        replace nx_0 := cell_grow hg nx_0 (fun g e => by have := hrow33 g e; omega)
        replace HX := Lib.hid (own_grow hg HX.out (fun g e => by have := hrow33 g e; omega))
        replace HY := Lib.hid (own_grow hg HY.out (fun g e => by have := hrow33 g e; omega))
        have HBh33 := Lib.hid (HBh32.out.grown hg (by have := HBh32.out.size; omega) (fun g e => by have := hrow33 g e; omega))
        have HO2 := Lib.hid (own_narrow hown)
        have hgg33 : (gg0 ≤ gg ∧ gg < (gg0 + 1)) ∨ gg = v32.heap.size := by (rcases hat with e | e); (have := hrow33 gg e; exact .inl ⟨this.1, this.2.1⟩); exact .inr e
        clear hown hg hat hrow33 HO
        refine hK.out _ _ ?_ (fun hHeld => ?_)
        · exact ⟨c1, c2⟩
        clear hK K
        try simp only [List.getElem_toArray, List.getElem_cons_succ, List.getElem_cons_zero, Act.put, List.setIfInBounds_toArray, List.set_cons_zero, List.set_cons_succ]
        refine wpAnyH_take (i := 12) (v := ?_) rfl (by kernel_rfl) (by kernel_rfl) (by kernel_rfl) (fun _ _ _ h => h) (Or.inl ⟨by rfl, ?_⟩) (by assumption) ?_
        rotate_left
        · intro w9 hSw; (try dsimp only at hSw); go_simp; try with_reducible rfl
        try simp only [List.getElem_toArray, List.getElem_cons_succ, List.getElem_cons_zero, Act.put, List.setIfInBounds_toArray, List.set_cons_zero, List.set_cons_succ]
        refine wpAnyH_done (by kernel_rfl) ?_ _
        refine NoPanic.normal ?_
        clear hHeld
        go_wp2_with fail
        go_roundw
        case rel => exact ⟨k + 1, gg, gc, by omega, by go_num, by rw [HM.out, List.length_append]; rfl, by rw [HM.out, List.length_append]; exact HO2.out, by omega, by omega, by omega, HX.out, HY.out, HBh33.out⟩
        case measure => simp [intOf]; omega
      · obtain rfl : k = N := by omega
        have hR : RetIB (preTo xs ys k) true w (.returned (.tuple #[.slice (some ⟨gg0, 0, none⟩) (preTo xs ys k).length gc0, .bool true])) wr := ⟨_, rfl, ho.mono hgw (by omega), hbel⟩
        have HF := Lib.hid hR
        clear hR ho hx hy hbel HBE hlen HO HX HY HBl
        have HGM := Lib.hid (show preTo xs ys xs.length = preTo xs ys k by rw [HLX.out])
        generalize preTo xs ys k = ms at *
        go_wp2_with fail
        go_ret2
        rw [HGM.out]
        exact HF.out
  refine AllReadyH.cons rfl (fun K hK => ?_) AllReadyH.nil
  clear hHeld
  go_simp
  refine (HW2.out _ HBh12.out).mono ?_
  rintro e v13 ⟨v, rfl, ho, hb⟩
  have hol := ho.slice
  obtain ⟨g2', cb2, rfl, _, _, _⟩ := hol
  have sz13 : v12.heap.size ≤ v13.heap.size := hb.size
  replace x0_0 := cell_keep hb x0_0
  replace x0_1 := cell_keep hb x0_1
  replace x1_0 := cell_keep hb x1_0
  replace x1_1 := cell_keep hb x1_1
  replace HX := Lib.hid (HX.out.below hb)
  have HBh13 := Lib.hid (HBh12.out.trans (hb.mono (by have := HBh12.out.size; omega)))
  clear hb
  rw [HLY.out] at ho
  obtain ⟨g2, hgx, _, _⟩ := own_block ho (by rw [HLY.out]; omega)
  subst hgx
  have HY := Lib.hid (own_point ho)
  have ltg2 := (ho.lt (g := g2) rfl).2.2
  have log2 := (ho.lt (g := g2) rfl).1
  clear ho
  rw [HLY.out]
  refine hK.out _ _ ?_ (fun hHeld => ?_)
  · exact ⟨x0_0, x0_1, x1_0, x1_1⟩
  clear hK K
  try simp only [List.getElem_toArray, List.getElem_cons_succ, List.getElem_cons_zero, Act.put, List.setIfInBounds_toArray, List.set_cons_zero, List.set_cons_succ]
  refine wpAnyH_ready (rs := [0]) (by kernel_rfl) (by simp) ?_
  refine AllReadyH.cons rfl (fun K hK => ?_) AllReadyH.nil
  clear hHeld
  go_simp
  have ho : OwnI v13.heap.size (v13.heap.size + 1) (v13.alloc (.cells #[] 3)) (.slice (some ⟨v13.heap.size, 0, none⟩) 0 0) [] := own_point (OwnI.of (World.ownsRow_made (base := v13.heap.size) (e := 3) (size := 1) v13 #[] 0 (Nat.le_refl _) (by unfold maxLen; omega) rfl))
  have hb := below_alloc v13 (.cells #[] 3)
  have lt_nw := size_alloc' v13 (.cells #[] 3)
  generalize hwn : v13.alloc (.cells #[] 3) = v14 at *
  clear hwn
  have sz14 : v13.heap.size ≤ v14.heap.size := hb.size
  replace x0_0 := cell_keep hb x0_0
  replace x0_1 := cell_keep hb x0_1
  replace x1_0 := cell_keep hb x1_0
  replace x1_1 := cell_keep hb x1_1
  replace HX := Lib.hid (HX.out.below hb)
  replace HY := Lib.hid (HY.out.below hb)
  have HBh14 := Lib.hid (HBh13.out.trans (hb.mono (by have := HBh13.out.size; omega)))
  clear hb
  have HO := Lib.hid ho
  clear ho
  obtain ⟨Bnw, hBnw⟩ : ∃ Bnw : Nat, Bnw = v13.heap.size := ⟨_, rfl⟩
  rw [← hBnw] at HO ⊢
  have hBlnw : Bnw ≤ v13.heap.size ∧ v13.heap.size ≤ Bnw := by omega
  clear hBnw
  refine hK.out _ _ ?_ (fun hHeld => ?_)
  · exact ⟨x0_0, x0_1, x1_0, x1_1⟩
  clear hK K
  try simp only [List.getElem_toArray, List.getElem_cons_succ, List.getElem_cons_zero, Act.put, List.setIfInBounds_toArray, List.set_cons_zero, List.set_cons_succ]
  refine wpAnyH_take (i := 5) (v := ?_) rfl (by kernel_rfl) (by kernel_rfl) (by kernel_rfl) (fun _ _ _ h => h) (Or.inl ⟨by rfl, ?_⟩) (by assumption) ?_
  rotate_left
  · intro w9 hSw; (try dsimp only at hSw); go_simp; try with_reducible rfl
  try simp only [List.getElem_toArray, List.getElem_cons_succ, List.getElem_cons_zero, Act.put, List.setIfInBounds_toArray, List.set_cons_zero, List.set_cons_succ]
  refine wpAnyH_take (i := 6) (v := ?_) rfl (by kernel_rfl) (by kernel_rfl) (by kernel_rfl) (fun _ _ _ h => h) (Or.inl ⟨by rfl, ?_⟩) (by assumption) ?_
  rotate_left
  · intro w9 hSw; (try dsimp only at hSw); go_simp; try with_reducible rfl
  try simp only [List.getElem_toArray, List.getElem_cons_succ, List.getElem_cons_zero, Act.put, List.setIfInBounds_toArray, List.set_cons_zero, List.set_cons_succ]
  refine wpAnyH_take (i := 7) (v := ?_) rfl (by kernel_rfl) (by kernel_rfl) (by kernel_rfl) (fun _ _ _ h => h) (Or.inl ⟨by rfl, ?_⟩) (by assumption) ?_
  rotate_left
  · intro w9 hSw; (try dsimp only at hSw); go_simp; try with_reducible rfl
  try simp only [List.getElem_toArray, List.getElem_cons_succ, List.getElem_cons_zero, Act.put, List.setIfInBounds_toArray, List.set_cons_zero, List.set_cons_succ]
  refine wpAnyH_done (by kernel_rfl) ?_ _
  refine NoPanic.normal ?_
  clear hHeld
  clear HW1 HW2 HV1 HV2 x0_0 x0_1 x1_0 x1_1
  have HBE := Lib.hid HBh14.out
  have hsE := HBh14.out.size
  go_wp2_with fail
  go_loopw [6, 9] (fun v i wr => ∃ (k gg gc : Nat), k ≤ N ∧ i = .int .i64 k ∧ v = .slice (some ⟨gg, 0, none⟩) (preTo xs ys k).length gc ∧ OwnI gg (gg + 1) wr (.slice (some ⟨gg, 0, none⟩) (preTo xs ys k).length gc) (preTo xs ys k) ∧ gg ≠ g1 ∧ gg ≠ g2 ∧ w.heap.size ≤ gg ∧ OwnI g1 (g1 + 1) wr (.slice (some ⟨g1, 0, none⟩) N cb1) xs ∧ OwnI g2 (g2 + 1) wr (.slice (some ⟨g2, 0, none⟩) N cb2) ys ∧ Below w.heap.size w wr) (fun _ i _ => N - (intOf i).toNat)
  case atStart => exact ⟨0, Bnw, 0, Nat.zero_le _, rfl, rfl, HO.out, by omega, by omega, by omega, HX.out, HY.out, HBE.out⟩
  case round =>
    clear HO HX HY
    obtain ⟨k, gg0, gc0, hk, rfl, rfl, ho, hg1, hg2, hgw, hx, hy, hbel⟩ := hrel
    have HO := Lib.hid ho
    have HX := Lib.hid hx
    have HY := Lib.hid hy
    have HBl := Lib.hid hbel
    have hlg := (ho.lt (g := gg0) rfl).2.2
    have hl1 := (hx.lt (g := g1) rfl).2.2
    have hl2 := (hy.lt (g := g2) rfl).2.2
    have hlen := preTo_length xs ys k
    by_cases hlt : k < N
    · have c1 := own_cell hx HLX.out.symm k (by rw [HLX.out]; exact hlt)
      have c2 := own_cell hy HLY.out.symm k (by rw [HLY.out]; exact hlt)
      have bx := HVX.out k hlt
      have by' := HVY.out k hlt
      have HM := Lib.hid (preTo_succ xs ys k)
      have hm9 : (preTo xs ys k).length ≤ 256 := by omega
      clear ho hx hy hbel HBE hlen
      generalize preTo xs ys k = ms at *
      have i1 : (0 : Int) ≤ (k : Int) := by omega
      have i2 : (k : Int) < (N : Int) := by omega
      have e1 : IntKind.i64.wrap (xs.getD k 0 * ys.getD k 0) = xs.getD k 0 * ys.getD k 0 := by
        rcases bx with hx | hx <;> rcases by' with hy | hy <;> rw [hx, hy] <;> decide
      generalize xs.getD k 0 = x at *
      generalize ys.getD k 0 = y at *
      go_wp2_with fail
      refine wp_region_noPanic ?_
      refine wp_region_held_drew (S := fun w' => w'.cell? ⟨g1, k, none⟩ = some (.int .i64 x) ∧ w'.cell? ⟨g2, k, none⟩ = some (.int .i64 y)) (by kernel_rfl) ?_ (fun hHeld => ?_)
      · exact ⟨c1, c2⟩
      have hb : Below wr.heap.size wr wr.drew := (Below.refl _ _).drew
      generalize hwn : wr.drew = v31 at *
      clear hwn
      have sz31 : wr.heap.size ≤ v31.heap.size := hb.size
      replace c1 := cell_keep hb c1
      replace c2 := cell_keep hb c2
      replace HX := Lib.hid (HX.out.below hb)
      replace HY := Lib.hid (HY.out.below hb)
      replace HO := Lib.hid (HO.out.below hb)
      have HBh31 := Lib.hid (HBl.out.trans (hb.mono (by have := HBl.out.size; omega)))
      clear hb
      refine wpAnyH_take (i := 0) (v := ?_) rfl (by kernel_rfl) (by kernel_rfl) (by kernel_rfl) (fun _ _ _ h => h) (Or.inl ⟨by rfl, ?_⟩) (by assumption) ?_
      rotate_left
      · intro w9 hSw; (try dsimp only at hSw); go_simp; try with_reducible rfl
      try simp only [List.getElem_toArray, List.getElem_cons_succ, List.getElem_cons_zero, Act.put, List.setIfInBounds_toArray, List.set_cons_zero, List.set_cons_succ]
      refine wpAnyH_take (i := 1) (v := ?_) rfl (by kernel_rfl) (by kernel_rfl) (by kernel_rfl) (fun _ _ _ h => h) (Or.inl ⟨by rfl, ?_⟩) (by assumption) ?_
      rotate_left
      · intro w9 hSw; (try dsimp only at hSw); go_simp; try with_reducible rfl
      try simp only [List.getElem_toArray, List.getElem_cons_succ, List.getElem_cons_zero, Act.put, List.setIfInBounds_toArray, List.set_cons_zero, List.set_cons_succ]
      refine wpAnyH_take (i := 2) (v := ?_) rfl (by kernel_rfl) (by kernel_rfl) (by kernel_rfl) (fun _ _ _ h => h) (Or.inl ⟨by rfl, ?_⟩) (by assumption) ?_
      rotate_left
      · intro w9 hSw; (try dsimp only at hSw); go_simp; try with_reducible rfl
      try simp only [List.getElem_toArray, List.getElem_cons_succ, List.getElem_cons_zero, Act.put, List.setIfInBounds_toArray, List.set_cons_zero, List.set_cons_succ]
      refine wpAnyH_take (i := 3) (v := ?_) rfl (by kernel_rfl) (by kernel_rfl) (by kernel_rfl) (fun _ _ _ h => h) (Or.inl ⟨by rfl, ?_⟩) (by assumption) ?_
      rotate_left
      · intro w9 hSw; (try dsimp only at hSw); go_simp; try with_reducible rfl
      try simp only [List.getElem_toArray, List.getElem_cons_succ, List.getElem_cons_zero, Act.put, List.setIfInBounds_toArray, List.set_cons_zero, List.set_cons_succ]
      refine wpAnyH_take (i := 4) (v := ?_) rfl (by kernel_rfl) (by kernel_rfl) (by kernel_rfl) (fun _ _ _ h => h) (Or.inl ⟨by rfl, ?_⟩) (by assumption) ?_
      rotate_left
      · intro w9 hSw; (try dsimp only at hSw); go_simp; try with_reducible rfl
      try simp only [List.getElem_toArray, List.getElem_cons_succ, List.getElem_cons_zero, Act.put, List.setIfInBounds_toArray, List.set_cons_zero, List.set_cons_succ]
      refine wpAnyH_take (i := 5) (v := ?_) rfl (by kernel_rfl) (by kernel_rfl) (by kernel_rfl) (fun _ _ _ h => h) (Or.inl ⟨by rfl, ?_⟩) (by assumption) ?_
      rotate_left
      · intro w9 hSw; (try dsimp only at hSw); go_simp; try with_reducible rfl
      try simp only [List.getElem_toArray, List.getElem_cons_succ, List.getElem_cons_zero, Act.put, List.setIfInBounds_toArray, List.set_cons_zero, List.set_cons_succ]
      refine wpAnyH_take (i := 6) (v := ?_) rfl (by kernel_rfl) (by kernel_rfl) (by kernel_rfl) (fun _ _ _ h => h) (Or.inl ⟨by rfl, ?_⟩) (by assumption) ?_
      rotate_left
      · intro w9 hSw; (try dsimp only at hSw); go_simp; try with_reducible rfl
      try simp only [List.getElem_toArray, List.getElem_cons_succ, List.getElem_cons_zero, Act.put, List.setIfInBounds_toArray, List.set_cons_zero, List.set_cons_succ]
      refine wpAnyH_take (i := 7) (v := ?_) rfl (by kernel_rfl) (by kernel_rfl) (by kernel_rfl) (fun _ _ _ h => h) (Or.inl ⟨by rfl, ?_⟩) (by assumption) ?_
      rotate_left
      · intro w9 hSw; (try dsimp only at hSw); go_simp; try with_reducible rfl
      try simp only [List.getElem_toArray, List.getElem_cons_succ, List.getElem_cons_zero, Act.put, List.setIfInBounds_toArray, List.set_cons_zero, List.set_cons_succ]
      refine wpAnyH_take (i := 8) (v := ?_) rfl (by kernel_rfl) (by kernel_rfl) (by kernel_rfl) (fun _ _ _ h => h) (Or.inl ⟨by rfl, ?_⟩) (by assumption) ?_
      rotate_left
      · intro w9 hSw; (try dsimp only at hSw); go_simp; try with_reducible rfl
      try simp only [List.getElem_toArray, List.getElem_cons_succ, List.getElem_cons_zero, Act.put, List.setIfInBounds_toArray, List.set_cons_zero, List.set_cons_succ]
      refine wpAnyH_take (i := 9) (v := ?_) rfl (by kernel_rfl) (by kernel_rfl) (by kernel_rfl) (fun _ _ _ h => h) (Or.inl ⟨by rfl, ?_⟩) (by assumption) ?_
      rotate_left
      · intro w9 hSw; (try dsimp only at hSw); go_simp; try with_reducible rfl
      try simp only [List.getElem_toArray, List.getElem_cons_succ, List.getElem_cons_zero, Act.put, List.setIfInBounds_toArray, List.set_cons_zero, List.set_cons_succ]
      refine wpAnyH_ready (rs := [10]) (by kernel_rfl) (by simp) ?_
      refine AllReadyH.cons rfl (fun K hK => ?_) AllReadyH.nil
      clear hHeld
      go_simp
      have nx_0 : (v31.alloc (.cells #[.int .i64 (x * y)] 3)).cell? ⟨v31.heap.size, 0, none⟩ = some (.int .i64 (x * y)) := cell_new _ _ _ rfl rfl
      have nx_f0 : (v31.alloc (.cells #[.int .i64 (x * y)] 3)).frozen? ⟨v31.heap.size, 0, none⟩ = false := fro_new _ _ _ rfl
      have hb := below_alloc v31 (.cells #[.int .i64 (x * y)] 3)
      have lt_nx := size_alloc' v31 (.cells #[.int .i64 (x * y)] 3)
      generalize hwn : v31.alloc (.cells #[.int .i64 (x * y)] 3) = v32 at *
      clear hwn
      have sz32 : v31.heap.size ≤ v32.heap.size := hb.size
      replace c1 := cell_keep hb c1
      replace c2 := cell_keep hb c2
      replace HX := Lib.hid (HX.out.below hb)
      replace HY := Lib.hid (HY.out.below hb)
      replace HO := Lib.hid (HO.out.below hb)
      have HBh32 := Lib.hid (HBh31.out.trans (hb.mono (by have := HBh31.out.size; omega)))
      clear hb
      obtain ⟨Bnx, hBnx⟩ : ∃ Bnx : Nat, Bnx = v31.heap.size := ⟨_, rfl⟩
      rw [← hBnx] at nx_0 nx_f0 ⊢
      have hBlnx : Bnx ≤ v31.heap.size ∧ v31.heap.size ≤ Bnx := by omega
      clear hBnx
      refine hK.out _ _ ?_ (fun hHeld => ?_)
      · exact ⟨c1, c2⟩
      clear hK K
      try simp only [List.getElem_toArray, List.getElem_cons_succ, List.getElem_cons_zero, Act.put, List.setIfInBounds_toArray, List.set_cons_zero, List.set_cons_succ]
      refine wpAnyH_ready (rs := [11]) (by kernel_rfl) (by simp) ?_
      refine AllReadyH.cons rfl (fun K hK => ?_) AllReadyH.nil
      clear hHeld
      have hrow33 : ∀ g, (Value.slice (some ⟨gg0, 0, none⟩) ms.length gc0).ownBlock = some g → gg0 ≤ g ∧ g < (gg0 + 1) ∧ g < v32.heap.size := fun g e => HO.out.lt e
      have hlo33 : gg0 ≤ v32.heap.size := by omega
      refine step_append_lies _ (by rfl) _ _ _ (by rfl) (gg0) 3 i0 _ 1 8 Try.underlying22 hi hz0 hz1 hz2 rfl (by omega) (.slice (some ⟨gg0, 0, none⟩) ms.length gc0) ms.length (ms.map (Value.int .i64)) (by rfl) HO.out.1 ⟨Bnx, 0, none⟩ 1 1 [.int .i64 (x * y)] (by rfl) (by rfl) (fun j u hj => by (have h7 : j = 0 := by (have := (List.getElem?_eq_some_iff.1 hj).1; simp at this; exact this)); subst h7; simp at hj; subst hj; simpa [Addr.add] using nx_0) (by simp [Value.oneCell']) (by omega) (by unfold maxLen; omega) (by omega) hlo33 v32.heap.size rfl ?_
      intro gg gc v33 hown hg hat hlt9
      have sz33 : v32.heap.size ≤ v33.heap.size := hg.size
      replace nx_f0 := fro_grow hg nx_0 nx_f0 (fun g e => by have := hrow33 g e; omega)
      replace c1 := cell_grow hg c1 (fun g e => by have := hrow33 g e; omega)
      replace c2 := cell_grow hg c2 (fun g e => by have := hrow33 g e; omega)
      replace nx_0 := cell_grow hg nx_0 (fun g e => by have := hrow33 g e; omega)
      replace HX := Lib.hid (own_grow hg HX.out (fun g e => by have := hrow33 g e; omega))
      replace HY := Lib.hid (own_grow hg HY.out (fun g e => by have := hrow33 g e; omega))
      have HBh33 := Lib.hid (HBh32.out.grown hg (by have := HBh32.out.size; omega) (fun g e => by have := hrow33 g e; omega))
      have HO2 := Lib.hid (own_narrow hown)
      have hgg33 : (gg0 ≤ gg ∧ gg < (gg0 + 1)) ∨ gg = v32.heap.size := by (rcases hat with e | e); (have := hrow33 gg e; exact .inl ⟨this.1, this.2.1⟩); exact .inr e
      clear hown hg hat hrow33 HO
      refine hK.out _ _ ?_ (fun hHeld => ?_)
      · exact ⟨c1, c2⟩
      clear hK K
      try simp only [List.getElem_toArray, List.getElem_cons_succ, List.getElem_cons_zero, Act.put, List.setIfInBounds_toArray, List.set_cons_zero, List.set_cons_succ]
      refine wpAnyH_take (i := 12) (v := ?_) rfl (by kernel_rfl) (by kernel_rfl) (by kernel_rfl) (fun _ _ _ h => h) (Or.inl ⟨by rfl, ?_⟩) (by assumption) ?_
      rotate_left
      · intro w9 hSw; (try dsimp only at hSw); go_simp; try with_reducible rfl
      try simp only [List.getElem_toArray, List.getElem_cons_succ, List.getElem_cons_zero, Act.put, List.setIfInBounds_toArray, List.set_cons_zero, List.set_cons_succ]
      refine wpAnyH_done (by kernel_rfl) ?_ _
      refine NoPanic.normal ?_
      clear hHeld
      go_wp2_with fail
      go_roundw
      case rel => exact ⟨k + 1, gg, gc, by omega, by go_num, by rw [HM.out, List.length_append]; rfl, by rw [HM.out, List.length_append]; exact HO2.out, by omega, by omega, by omega, HX.out, HY.out, HBh33.out⟩
      case measure => simp [intOf]; omega
    · obtain rfl : k = N := by omega
      have hR : RetIB (preTo xs ys k) true w (.returned (.tuple #[.slice (some ⟨gg0, 0, none⟩) (preTo xs ys k).length gc0, .bool true])) wr := ⟨_, rfl, ho.mono hgw (by omega), hbel⟩
      have HF := Lib.hid hR
      clear hR ho hx hy hbel HBE hlen HO HX HY HBl
      have HGM := Lib.hid (show preTo xs ys xs.length = preTo xs ys k by rw [HLX.out])
      generalize preTo xs ys k = ms at *
      go_wp2_with fail
      go_ret2
      rw [HGM.out]
      exact HF.out
end Go.Proofs.Ytplhcboecjegjaa.boths
