/- The walks of the program's least wins and greatest losses. -/
import Derived.Test.YtobdapalllaceaaEdges
import Derived.Test.YtobdapalllaceaaIsEdge
import Derived.Test.YtobdapalllaceaaSetsN
import Derived.Deep.AppendLies
namespace Go.Proofs.Ytobdapalllaceaa.setsw
open setsn Go.RowKit own pp nums setcmp setord pv wins ownb bitn edge outc sortw isedge edges bothi
set_option linter.unusedVariables false
attribute [local go_sem ↓] Go.wp_at_zero Go.wp_at_succ
set_option linter.unusedSimpArgs false

set_option maxRecDepth 100000 in
set_option maxHeartbeats 4000000 in
theorem lw_impl_no (a : Option Addr) (ws : List Int) (c : Nat) (q : Int) (w : World) (hr : ints.Reads .i64 w a ws) (hn : ws.length ≤ 1048576) {n : Nat} {win : Nat → Bool} (hd : OfV ws q n win false) :
    Calls Try.prog 27 #[.agg #[.slice a ws.length c, .int .i64 q]] w (RetGB [] false w) := by
  have HOF := Lib.hid (fun (wa : World) (hb : Below w.heap.size w wa) => of_data a ws c q wa (hr.below hb) hn hd)
  have h8 := hd.le
  clear hr hd
  go_enter Try.func27, Try.ntmps27
  obtain ⟨w0, hw0⟩ : ∃ w0 : World, w0 = w.alloc (.cells #[.slice a ws.length c, .int .i64 q] 34) := ⟨_, rfl⟩
  have x0 : w0.cell? ⟨w.heap.size, 0, none⟩ = some (.slice a ws.length c) := by rw [hw0]; exact cell_new _ _ _ rfl rfl
  have x1 : w0.cell? ⟨w.heap.size, 1, none⟩ = some (.int .i64 q) := by rw [hw0]; exact cell_new _ _ _ rfl rfl
  have HB0 := Lib.hid (show Below w.heap.size w w0 by rw [hw0]; exact below_alloc w (.cells #[.slice a ws.length c, .int .i64 q] 34))
  have s0 : w.heap.size + 1 ≤ w0.heap.size := by rw [hw0]; simp
  go_wp2_with fail
  rw [← hw0]
  clear hw0
  refine (HOF.out _ HB0.out).mono ?_
  rintro e w1 ⟨rfl, hb1⟩
  have HB1 := Lib.hid (HB0.out.trans (hb1.mono (by omega)))
  have s1 := hb1.size
  clear hb1 x0 x1 HOF
  go_wp2_with (refine wp_alloc rfl rfl ?_; intro w2 hbx2 hb2 hz2; refine Hid.out ?_)
  have HB2 := Lib.hid (HB1.out.trans (hb2.mono (by omega)))
  clear hb2
  refine Lib.hid ?_
  go_wp2_with (refine wp_store rfl _ _ rfl w1.heap.size n (upto win (2 ^ n)) rfl rfl 0 no hbx2 ?_; intro w3 hbx3 ho3 hz3; refine Hid.out ?_)
  have HB3 := Lib.hid (HB2.out.trans ((ho3.below (by omega)).mono (by omega)))
  have s3 : w1.heap.size < w3.heap.size := by omega
  clear ho3 hbx2
  refine Lib.hid ?_
  go_wp2_with fail
  go_ret2
  have hz9 : w3.heap.size = w1.heap.size + 1 := by omega
  have hm9 := World.ownsRow_made (base := w.heap.size) (e := 22) (size := 1) w3 #[] 0 (by omega) (by unfold maxLen; omega) rfl
  rw [hz9] at hm9
  exact ⟨_, rfl, ⟨[], hm9, fun g e => by (have e2 : w1.heap.size + 1 = g := by simpa [Value.ownBlock] using e); simp; omega, RowsOf.nil _ _ _⟩, HB3.out.trans ((below_alloc _ _).mono (by omega))⟩
set_option maxRecDepth 100000 in
set_option maxHeartbeats 4000000 in
theorem lw_impl_yes (a : Option Addr) (ws : List Int) (c : Nat) (q : Int) (w : World) (hr : ints.Reads .i64 w a ws) (hn : ws.length ≤ 1048576) {n : Nat} {win : Nat → Bool} (hd : OfV ws q n win true) :
    Calls Try.prog 27 #[.agg #[.slice a ws.length c, .int .i64 q]] w (RetGB (ordTo (upto win (2 ^ n)) n true (2 ^ n)) true w) := by
  have HOF := Lib.hid (fun (wa : World) (hb : Below w.heap.size w wa) => of_data a ws c q wa (hr.below hb) hn hd)
  have h8 := hd.le
  clear hr hd
  go_enter Try.func27, Try.ntmps27
  obtain ⟨w0, hw0⟩ : ∃ w0 : World, w0 = w.alloc (.cells #[.slice a ws.length c, .int .i64 q] 34) := ⟨_, rfl⟩
  have x0 : w0.cell? ⟨w.heap.size, 0, none⟩ = some (.slice a ws.length c) := by rw [hw0]; exact cell_new _ _ _ rfl rfl
  have x1 : w0.cell? ⟨w.heap.size, 1, none⟩ = some (.int .i64 q) := by rw [hw0]; exact cell_new _ _ _ rfl rfl
  have HB0 := Lib.hid (show Below w.heap.size w w0 by rw [hw0]; exact below_alloc w (.cells #[.slice a ws.length c, .int .i64 q] 34))
  have s0 : w.heap.size + 1 ≤ w0.heap.size := by rw [hw0]; simp
  go_wp2_with fail
  rw [← hw0]
  clear hw0
  refine (HOF.out _ HB0.out).mono ?_
  rintro e w1 ⟨rfl, hb1⟩
  have HB1 := Lib.hid (HB0.out.trans (hb1.mono (by omega)))
  have s1 := hb1.size
  clear hb1 x0 x1 HOF
  go_wp2_with (refine wp_alloc rfl rfl ?_; intro w2 hbx2 hb2 hz2; refine Hid.out ?_)
  have HB2 := Lib.hid (HB1.out.trans (hb2.mono (by omega)))
  clear hb2
  refine Lib.hid ?_
  go_wp2_with (refine wp_store rfl _ _ rfl w1.heap.size n (upto win (2 ^ n)) rfl rfl 0 no hbx2 ?_; intro w3 hbx3 ho3 hz3; refine Hid.out ?_)
  have HB3 := Lib.hid (HB2.out.trans ((ho3.below (by omega)).mono (by omega)))
  have s3 : w1.heap.size < w3.heap.size := by omega
  clear ho3 hbx2
  refine Lib.hid ?_
  have HSW := Lib.hid (sets_where (.func (.func 74) #[.agg (oc n (upto win (2 ^ n)))] #[]) n (leastB (upto win (2 ^ n)) n) w3 h8 (Lib.hid (fun W hb => pwh.whereB 74 (enters_of Try.func74 (by kernel_rfl) rfl) (.agg (oc n (upto win (2 ^ n)))) (2 ^ n) (leastB (upto win (2 ^ n)) n) W (by have := bits8.pow8 h8; omega) (Lib.hid (fun k wr hk hb2 => is_isLeastWin n (upto win (2 ^ n)) k wr h8 hk)))))
  have HEQ := Lib.hid (show putsL (((List.range (2 ^ n)).filter (leastB (upto win (2 ^ n)) n)).map (bitsL n)) = ordTo (upto win (2 ^ n)) n true (2 ^ n) by
    unfold ordTo edgesTo
    rw [List.filter_congr (fun k hk => least_edge (p := upto win (2 ^ n)) h8 (List.mem_range.1 hk))])
  rw [HEQ.out] at HSW
  clear HEQ
  generalize ordTo (upto win (2 ^ n)) n true (2 ^ n) = rows at *
  generalize upto win (2 ^ n) = uw at *
  have hv0 := hbx3.cell0
  go_wp2_with (refine wp_load rfl _ rfl w1.heap.size n uw rfl hbx3 ?_)
  refine HSW.out.mono ?_
  rintro e w4 ⟨v, rfl, ho, hb4⟩
  have HF := Lib.hid (show RetGB rows true w (.returned (.tuple #[v, .bool true])) w4 from ⟨v, rfl, ho.mono (by omega) (Nat.le_refl _), HB3.out.trans (hb4.mono (by omega))⟩)
  clear ho hb4
  go_wp2_with fail
  go_ret2
  exact HF.out
set_option maxRecDepth 100000 in
set_option maxHeartbeats 4000000 in
theorem gl_impl_no (a : Option Addr) (ws : List Int) (c : Nat) (q : Int) (w : World) (hr : ints.Reads .i64 w a ws) (hn : ws.length ≤ 1048576) {n : Nat} {win : Nat → Bool} (hd : OfV ws q n win false) :
    Calls Try.prog 33 #[.agg #[.slice a ws.length c, .int .i64 q]] w (RetGB [] false w) := by
  have HOF := Lib.hid (fun (wa : World) (hb : Below w.heap.size w wa) => of_data a ws c q wa (hr.below hb) hn hd)
  have h8 := hd.le
  clear hr hd
  go_enter Try.func33, Try.ntmps33
  obtain ⟨w0, hw0⟩ : ∃ w0 : World, w0 = w.alloc (.cells #[.slice a ws.length c, .int .i64 q] 34) := ⟨_, rfl⟩
  have x0 : w0.cell? ⟨w.heap.size, 0, none⟩ = some (.slice a ws.length c) := by rw [hw0]; exact cell_new _ _ _ rfl rfl
  have x1 : w0.cell? ⟨w.heap.size, 1, none⟩ = some (.int .i64 q) := by rw [hw0]; exact cell_new _ _ _ rfl rfl
  have HB0 := Lib.hid (show Below w.heap.size w w0 by rw [hw0]; exact below_alloc w (.cells #[.slice a ws.length c, .int .i64 q] 34))
  have s0 : w.heap.size + 1 ≤ w0.heap.size := by rw [hw0]; simp
  go_wp2_with fail
  rw [← hw0]
  clear hw0
  refine (HOF.out _ HB0.out).mono ?_
  rintro e w1 ⟨rfl, hb1⟩
  have HB1 := Lib.hid (HB0.out.trans (hb1.mono (by omega)))
  have s1 := hb1.size
  clear hb1 x0 x1 HOF
  go_wp2_with (refine wp_alloc rfl rfl ?_; intro w2 hbx2 hb2 hz2; refine Hid.out ?_)
  have HB2 := Lib.hid (HB1.out.trans (hb2.mono (by omega)))
  clear hb2
  refine Lib.hid ?_
  go_wp2_with (refine wp_store rfl _ _ rfl w1.heap.size n (upto win (2 ^ n)) rfl rfl 0 no hbx2 ?_; intro w3 hbx3 ho3 hz3; refine Hid.out ?_)
  have HB3 := Lib.hid (HB2.out.trans ((ho3.below (by omega)).mono (by omega)))
  have s3 : w1.heap.size < w3.heap.size := by omega
  clear ho3 hbx2
  refine Lib.hid ?_
  go_wp2_with fail
  go_ret2
  have hz9 : w3.heap.size = w1.heap.size + 1 := by omega
  have hm9 := World.ownsRow_made (base := w.heap.size) (e := 22) (size := 1) w3 #[] 0 (by omega) (by unfold maxLen; omega) rfl
  rw [hz9] at hm9
  exact ⟨_, rfl, ⟨[], hm9, fun g e => by (have e2 : w1.heap.size + 1 = g := by simpa [Value.ownBlock] using e); simp; omega, RowsOf.nil _ _ _⟩, HB3.out.trans ((below_alloc _ _).mono (by omega))⟩
set_option maxRecDepth 100000 in
set_option maxHeartbeats 4000000 in
theorem gl_impl_yes (a : Option Addr) (ws : List Int) (c : Nat) (q : Int) (w : World) (hr : ints.Reads .i64 w a ws) (hn : ws.length ≤ 1048576) {n : Nat} {win : Nat → Bool} (hd : OfV ws q n win true) :
    Calls Try.prog 33 #[.agg #[.slice a ws.length c, .int .i64 q]] w (RetGB (ordTo (upto win (2 ^ n)) n false (2 ^ n)) true w) := by
  have HOF := Lib.hid (fun (wa : World) (hb : Below w.heap.size w wa) => of_data a ws c q wa (hr.below hb) hn hd)
  have h8 := hd.le
  clear hr hd
  go_enter Try.func33, Try.ntmps33
  obtain ⟨w0, hw0⟩ : ∃ w0 : World, w0 = w.alloc (.cells #[.slice a ws.length c, .int .i64 q] 34) := ⟨_, rfl⟩
  have x0 : w0.cell? ⟨w.heap.size, 0, none⟩ = some (.slice a ws.length c) := by rw [hw0]; exact cell_new _ _ _ rfl rfl
  have x1 : w0.cell? ⟨w.heap.size, 1, none⟩ = some (.int .i64 q) := by rw [hw0]; exact cell_new _ _ _ rfl rfl
  have HB0 := Lib.hid (show Below w.heap.size w w0 by rw [hw0]; exact below_alloc w (.cells #[.slice a ws.length c, .int .i64 q] 34))
  have s0 : w.heap.size + 1 ≤ w0.heap.size := by rw [hw0]; simp
  go_wp2_with fail
  rw [← hw0]
  clear hw0
  refine (HOF.out _ HB0.out).mono ?_
  rintro e w1 ⟨rfl, hb1⟩
  have HB1 := Lib.hid (HB0.out.trans (hb1.mono (by omega)))
  have s1 := hb1.size
  clear hb1 x0 x1 HOF
  go_wp2_with (refine wp_alloc rfl rfl ?_; intro w2 hbx2 hb2 hz2; refine Hid.out ?_)
  have HB2 := Lib.hid (HB1.out.trans (hb2.mono (by omega)))
  clear hb2
  refine Lib.hid ?_
  go_wp2_with (refine wp_store rfl _ _ rfl w1.heap.size n (upto win (2 ^ n)) rfl rfl 0 no hbx2 ?_; intro w3 hbx3 ho3 hz3; refine Hid.out ?_)
  have HB3 := Lib.hid (HB2.out.trans ((ho3.below (by omega)).mono (by omega)))
  have s3 : w1.heap.size < w3.heap.size := by omega
  clear ho3 hbx2
  refine Lib.hid ?_
  have HSW := Lib.hid (sets_where (.func (.func 75) #[.agg (oc n (upto win (2 ^ n)))] #[]) n (lossB (upto win (2 ^ n)) n) w3 h8 (Lib.hid (fun W hb => pwh.whereB 75 (enters_of Try.func75 (by kernel_rfl) rfl) (.agg (oc n (upto win (2 ^ n)))) (2 ^ n) (lossB (upto win (2 ^ n)) n) W (by have := bits8.pow8 h8; omega) (Lib.hid (fun k wr hk hb2 => is_isGreatestLoss n (upto win (2 ^ n)) k wr h8 hk)))))
  have HEQ := Lib.hid (show putsL (((List.range (2 ^ n)).filter (lossB (upto win (2 ^ n)) n)).map (bitsL n)) = ordTo (upto win (2 ^ n)) n false (2 ^ n) by
    unfold ordTo edgesTo
    rw [List.filter_congr (fun k hk => loss_edge (p := upto win (2 ^ n)) h8 (List.mem_range.1 hk))])
  rw [HEQ.out] at HSW
  clear HEQ
  generalize ordTo (upto win (2 ^ n)) n false (2 ^ n) = rows at *
  generalize upto win (2 ^ n) = uw at *
  have hv0 := hbx3.cell0
  go_wp2_with (refine wp_load rfl _ rfl w1.heap.size n uw rfl hbx3 ?_)
  refine HSW.out.mono ?_
  rintro e w4 ⟨v, rfl, ho, hb4⟩
  have HF := Lib.hid (show RetGB rows true w (.returned (.tuple #[v, .bool true])) w4 from ⟨v, rfl, ho.mono (by omega) (Nat.le_refl _), HB3.out.trans (hb4.mono (by omega))⟩)
  clear ho hb4
  go_wp2_with fail
  go_ret2
  exact HF.out
end Go.Proofs.Ytobdapalllaceaa.setsw
