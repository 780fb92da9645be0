/- The walks of SwingCounts and OrderCounts: the model's and the program's. -/
import Derived.Test.YtkcpncngkmnmdaaOutOf
import Derived.Test.YtkcpncngkmnmdaaSwing
import Derived.Test.YtkcpncngkmnmdaaSumS
namespace Go.Proofs.Ytkcpncngkmnmdaa.swingw
open Go.RowKit own pp nums pv bitw mk wins ownb outc psw pop
set_option linter.unusedVariables false
set_option linter.unusedSimpArgs false

set_option maxRecDepth 100000 in
set_option maxHeartbeats 4000000 in
theorem sc_spec_no (a : Option Addr) (ws : List Int) (c : Nat) (q : Int) (w : World) (hr : ints.Reads .i64 w a ws) (hn : ws.length ≤ 1048576) (hk : voteB ws q = false) :
    Calls Try.prog 28 #[.agg #[.slice a ws.length c, .int .i64 q]] w (RetIB [] false w) := by
  have HV := Lib.hid (fun (wa : World) (hb : Below w.heap.size w wa) => vote.spec_vote a ws c q wa (hr.below hb) hn false (Lib.hid hk))
  clear hr hk
  go_enter Try.func28, Try.ntmps28
  obtain ⟨w0, hw0⟩ : ∃ w0 : World, w0 = w.alloc (.cells #[.slice a ws.length c, .int .i64 q] 29) := ⟨_, rfl⟩
  have x0 : w0.cell? ⟨w.heap.size, 0, none⟩ = some (.slice a ws.length c) := by rw [hw0]; exact cell_new _ _ _ rfl rfl
  have x1 : w0.cell? ⟨w.heap.size, 1, none⟩ = some (.int .i64 q) := by rw [hw0]; exact cell_new _ _ _ rfl rfl
  have HB0 := Lib.hid (show Below w.heap.size w w0 by rw [hw0]; exact below_alloc w (.cells #[.slice a ws.length c, .int .i64 q] 29))
  have s0 : w.heap.size + 1 ≤ w0.heap.size := by rw [hw0]; simp
  go_wp2_with fail
  rw [← hw0]
  clear hw0
  refine (HV.out _ HB0.out).mono ?_
  rintro e w1 ⟨rfl, hb1⟩
  have y0 := cell_below hb1 x0 (by omega)
  have y1 := cell_below hb1 x1 (by omega)
  have HB1 := Lib.hid (HB0.out.trans (hb1.mono (by omega)))
  have s1 := hb1.size
  clear hb1 x0 x1 HV
  go_wp2_with fail
  go_ret2
  exact ret_empty HB1.out
set_option maxRecDepth 100000 in
set_option maxHeartbeats 4000000 in
theorem sc_spec_yes (a : Option Addr) (ws : List Int) (c : Nat) (q : Int) (w : World) (hr : ints.Reads .i64 w a ws) (hn : ws.length ≤ 1048576) (hk : voteB ws q = true) :
    Calls Try.prog 28 #[.agg #[.slice a ws.length c, .int .i64 q]] w (RetIB (row (winB ws q) one ws.length (2 ^ ws.length) 0) true w) := by
  have HV := Lib.hid (fun (wa : World) (hb : Below w.heap.size w wa) => vote.spec_vote a ws c q wa (hr.below hb) hn true (Lib.hid hk))
  have h18 := ((vote_iff _ _).1 hk).1
  have HW := Lib.hid (fun (wa : World) (hb : Below w.heap.size w wa) => swing.spec_once a ws c q wa (hr.below hb) hn h18.2 ((vote_iff _ _).1 hk).2.1)
  clear hr hk
  go_enter Try.func28, Try.ntmps28
  obtain ⟨w0, hw0⟩ : ∃ w0 : World, w0 = w.alloc (.cells #[.slice a ws.length c, .int .i64 q] 29) := ⟨_, rfl⟩
  have x0 : w0.cell? ⟨w.heap.size, 0, none⟩ = some (.slice a ws.length c) := by rw [hw0]; exact cell_new _ _ _ rfl rfl
  have x1 : w0.cell? ⟨w.heap.size, 1, none⟩ = some (.int .i64 q) := by rw [hw0]; exact cell_new _ _ _ rfl rfl
  have HB0 := Lib.hid (show Below w.heap.size w w0 by rw [hw0]; exact below_alloc w (.cells #[.slice a ws.length c, .int .i64 q] 29))
  have s0 : w.heap.size + 1 ≤ w0.heap.size := by rw [hw0]; simp
  go_wp2_with fail
  rw [← hw0]
  clear hw0
  refine (HV.out _ HB0.out).mono ?_
  rintro e w1 ⟨rfl, hb1⟩
  have y0 := cell_below hb1 x0 (by omega)
  have y1 := cell_below hb1 x1 (by omega)
  have HB1 := Lib.hid (HB0.out.trans (hb1.mono (by omega)))
  have s1 := hb1.size
  clear hb1 x0 x1 HV
  go_wp2_with fail
  refine (HW.out _ HB1.out).mono ?_
  rintro e w2 ⟨v, rfl, ho, hb2⟩
  have HF := Lib.hid (show RetIB (row (winB ws q) one ws.length (2 ^ ws.length) 0) true w (.returned (.tuple #[v, .bool true])) w2 from ⟨v, rfl, ho.mono (by omega) (Nat.le_refl _), HB1.out.trans (hb2.mono (by omega))⟩)
  clear ho hb2
  go_wp2_with fail
  go_ret2
  exact HF.out
set_option maxRecDepth 100000 in
set_option maxHeartbeats 4000000 in
theorem sc_impl (a : Option Addr) (ws : List Int) (c : Nat) (q : Int) (w : World) (hr : ints.Reads .i64 w a ws) (hn : ws.length ≤ 1048576) {n : Nat} {win : Nat → Bool} {ok : Bool} (hd : OfV ws q n win ok) :
    Calls Try.prog 29 #[.agg #[.slice a ws.length c, .int .i64 q]] w (RetIB (row win one n (2 ^ n) 0) ok w) := by
  have HOF := Lib.hid (fun (wa : World) (hb : Below w.heap.size w wa) => of_data a ws c q wa (hr.below hb) hn hd)
  have h8 := hd.le
  clear hr hd
  go_enter Try.func29, Try.ntmps29
  obtain ⟨w0, hw0⟩ : ∃ w0 : World, w0 = w.alloc (.cells #[.slice a ws.length c, .int .i64 q] 29) := ⟨_, rfl⟩
  have x0 : w0.cell? ⟨w.heap.size, 0, none⟩ = some (.slice a ws.length c) := by rw [hw0]; exact cell_new _ _ _ rfl rfl
  have x1 : w0.cell? ⟨w.heap.size, 1, none⟩ = some (.int .i64 q) := by rw [hw0]; exact cell_new _ _ _ rfl rfl
  have HB0 := Lib.hid (show Below w.heap.size w w0 by rw [hw0]; exact below_alloc w (.cells #[.slice a ws.length c, .int .i64 q] 29))
  have s0 : w.heap.size + 1 ≤ w0.heap.size := by rw [hw0]; simp
  go_wp2_with fail
  rw [← hw0]
  clear hw0
  refine (HOF.out _ HB0.out).mono ?_
  rintro e w1 ⟨rfl, hb1⟩
  have HB1 := Lib.hid (HB0.out.trans (hb1.mono (by omega)))
  have s1 := hb1.size
  clear hb1 x0 x1 HOF
  go_wp2_with (refine wp_alloc rfl rfl ?_; intro w2 hbx2 hb2 hz2; refine Hid.out ?_)
  have HB2 := Lib.hid (HB1.out.trans (hb2.mono (by omega)))
  clear hb2
  refine Lib.hid ?_
  go_wp2_with (refine wp_store rfl _ _ rfl w1.heap.size n (upto win (2 ^ n)) rfl rfl 0 no hbx2 ?_; intro w3 hbx3 ho3 hz3; refine Hid.out ?_)
  have HB3 := Lib.hid (HB2.out.trans ((ho3.below (by omega)).mono (by omega)))
  have s3 : w1.heap.size < w3.heap.size := by omega
  clear ho3 hbx2
  refine Lib.hid ?_
  go_wp2_with (refine wp_load rfl _ rfl w1.heap.size n (upto win (2 ^ n)) rfl hbx3 ?_)
  have HCW := Lib.hid (sums6.sumsF 62 (enters_of Try.func62 (by kernel_rfl) rfl) one n win w3 h8 one_bd (Lib.hid (fun s wr h1 h2 hb => sums6.one_closure s wr)))
  clear hbx3
  go_wp2_with fail
  refine HCW.out.mono ?_
  rintro e w4 ⟨v, rfl, ho, hb4⟩
  have HF := Lib.hid (show RetIB (row win one n (2 ^ n) 0) ok w (.returned (.tuple #[v, .bool ok])) w4 from ⟨v, rfl, ho.mono (by omega) (Nat.le_refl _), HB3.out.trans (hb4.mono (by omega))⟩)
  clear ho hb4
  go_wp2_with fail
  go_ret2
  exact HF.out
set_option maxRecDepth 100000 in
set_option maxHeartbeats 4000000 in
theorem oc_spec_no (a : Option Addr) (ws : List Int) (c : Nat) (q : Int) (w : World) (hr : ints.Reads .i64 w a ws) (hn : ws.length ≤ 1048576) (hk : voteB ws q = false) :
    Calls Try.prog 33 #[.agg #[.slice a ws.length c, .int .i64 q]] w (RetIB [] false w) := by
  have HV := Lib.hid (fun (wa : World) (hb : Below w.heap.size w wa) => vote.spec_vote a ws c q wa (hr.below hb) hn false (Lib.hid hk))
  clear hr hk
  go_enter Try.func33, Try.ntmps33
  obtain ⟨w0, hw0⟩ : ∃ w0 : World, w0 = w.alloc (.cells #[.slice a ws.length c, .int .i64 q] 29) := ⟨_, rfl⟩
  have x0 : w0.cell? ⟨w.heap.size, 0, none⟩ = some (.slice a ws.length c) := by rw [hw0]; exact cell_new _ _ _ rfl rfl
  have x1 : w0.cell? ⟨w.heap.size, 1, none⟩ = some (.int .i64 q) := by rw [hw0]; exact cell_new _ _ _ rfl rfl
  have HB0 := Lib.hid (show Below w.heap.size w w0 by rw [hw0]; exact below_alloc w (.cells #[.slice a ws.length c, .int .i64 q] 29))
  have s0 : w.heap.size + 1 ≤ w0.heap.size := by rw [hw0]; simp
  go_wp2_with fail
  rw [← hw0]
  clear hw0
  refine (HV.out _ HB0.out).mono ?_
  rintro e w1 ⟨rfl, hb1⟩
  have y0 := cell_below hb1 x0 (by omega)
  have y1 := cell_below hb1 x1 (by omega)
  have HB1 := Lib.hid (HB0.out.trans (hb1.mono (by omega)))
  have s1 := hb1.size
  clear hb1 x0 x1 HV
  go_wp2_with fail
  go_ret2
  exact ret_empty HB1.out
set_option maxRecDepth 100000 in
set_option maxHeartbeats 4000000 in
theorem oc_spec_yes (a : Option Addr) (ws : List Int) (c : Nat) (q : Int) (w : World) (hr : ints.Reads .i64 w a ws) (hn : ws.length ≤ 1048576) (hk : voteB ws q = true) :
    Calls Try.prog 33 #[.agg #[.slice a ws.length c, .int .i64 q]] w (RetIB (row (winB ws q) (ord ws.length) ws.length (2 ^ ws.length) 0) true w) := by
  have HV := Lib.hid (fun (wa : World) (hb : Below w.heap.size w wa) => vote.spec_vote a ws c q wa (hr.below hb) hn true (Lib.hid hk))
  have h18 := ((vote_iff _ _).1 hk).1
  have HW := Lib.hid (fun (wa : World) (hb : Below w.heap.size w wa) => swing.spec_orders a ws c q wa (hr.below hb) hn h18.2 ((vote_iff _ _).1 hk).2.1)
  clear hr hk
  go_enter Try.func33, Try.ntmps33
  obtain ⟨w0, hw0⟩ : ∃ w0 : World, w0 = w.alloc (.cells #[.slice a ws.length c, .int .i64 q] 29) := ⟨_, rfl⟩
  have x0 : w0.cell? ⟨w.heap.size, 0, none⟩ = some (.slice a ws.length c) := by rw [hw0]; exact cell_new _ _ _ rfl rfl
  have x1 : w0.cell? ⟨w.heap.size, 1, none⟩ = some (.int .i64 q) := by rw [hw0]; exact cell_new _ _ _ rfl rfl
  have HB0 := Lib.hid (show Below w.heap.size w w0 by rw [hw0]; exact below_alloc w (.cells #[.slice a ws.length c, .int .i64 q] 29))
  have s0 : w.heap.size + 1 ≤ w0.heap.size := by rw [hw0]; simp
  go_wp2_with fail
  rw [← hw0]
  clear hw0
  refine (HV.out _ HB0.out).mono ?_
  rintro e w1 ⟨rfl, hb1⟩
  have y0 := cell_below hb1 x0 (by omega)
  have y1 := cell_below hb1 x1 (by omega)
  have HB1 := Lib.hid (HB0.out.trans (hb1.mono (by omega)))
  have s1 := hb1.size
  clear hb1 x0 x1 HV
  go_wp2_with fail
  refine (HW.out _ HB1.out).mono ?_
  rintro e w2 ⟨v, rfl, ho, hb2⟩
  have HF := Lib.hid (show RetIB (row (winB ws q) (ord ws.length) ws.length (2 ^ ws.length) 0) true w (.returned (.tuple #[v, .bool true])) w2 from ⟨v, rfl, ho.mono (by omega) (Nat.le_refl _), HB1.out.trans (hb2.mono (by omega))⟩)
  clear ho hb2
  go_wp2_with fail
  go_ret2
  exact HF.out
set_option maxRecDepth 100000 in
set_option maxHeartbeats 4000000 in
theorem oc_impl (a : Option Addr) (ws : List Int) (c : Nat) (q : Int) (w : World) (hr : ints.Reads .i64 w a ws) (hn : ws.length ≤ 1048576) {n : Nat} {win : Nat → Bool} {ok : Bool} (hd : OfV ws q n win ok) :
    Calls Try.prog 34 #[.agg #[.slice a ws.length c, .int .i64 q]] w (RetIB (row win (ord n) n (2 ^ n) 0) ok w) := by
  have HOF := Lib.hid (fun (wa : World) (hb : Below w.heap.size w wa) => of_data a ws c q wa (hr.below hb) hn hd)
  have h8 := hd.le
  clear hr hd
  go_enter Try.func34, Try.ntmps34
  obtain ⟨w0, hw0⟩ : ∃ w0 : World, w0 = w.alloc (.cells #[.slice a ws.length c, .int .i64 q] 29) := ⟨_, rfl⟩
  have x0 : w0.cell? ⟨w.heap.size, 0, none⟩ = some (.slice a ws.length c) := by rw [hw0]; exact cell_new _ _ _ rfl rfl
  have x1 : w0.cell? ⟨w.heap.size, 1, none⟩ = some (.int .i64 q) := by rw [hw0]; exact cell_new _ _ _ rfl rfl
  have HB0 := Lib.hid (show Below w.heap.size w w0 by rw [hw0]; exact below_alloc w (.cells #[.slice a ws.length c, .int .i64 q] 29))
  have s0 : w.heap.size + 1 ≤ w0.heap.size := by rw [hw0]; simp
  go_wp2_with fail
  rw [← hw0]
  clear hw0
  refine (HOF.out _ HB0.out).mono ?_
  rintro e w1 ⟨rfl, hb1⟩
  have HB1 := Lib.hid (HB0.out.trans (hb1.mono (by omega)))
  have s1 := hb1.size
  clear hb1 x0 x1 HOF
  go_wp2_with (refine wp_alloc rfl rfl ?_; intro w2 hbx2 hb2 hz2; refine Hid.out ?_)
  have HB2 := Lib.hid (HB1.out.trans (hb2.mono (by omega)))
  clear hb2
  refine Lib.hid ?_
  go_wp2_with (refine wp_store rfl _ _ rfl w1.heap.size n (upto win (2 ^ n)) rfl rfl 0 no hbx2 ?_; intro w3 hbx3 ho3 hz3; refine Hid.out ?_)
  have HB3 := Lib.hid (HB2.out.trans ((ho3.below (by omega)).mono (by omega)))
  have s3 : w1.heap.size < w3.heap.size := by omega
  clear ho3 hbx2
  refine Lib.hid ?_
  go_wp2_with (refine wp_load rfl _ rfl w1.heap.size n (upto win (2 ^ n)) rfl hbx3 ?_)
  have HCW := Lib.hid (sums6.sums1 63 (enters_of Try.func63 (by kernel_rfl) rfl) (.pointer (some ⟨w1.heap.size, 0, none⟩)) (ord n) n win w3 h8 (ord_bd n) (Lib.hid (fun s wr h1 h2 hb => sums6.ord_closure s n w1.heap.size (upto win (2 ^ n)) wr h8 h1 h2 (hbx3.below hb s3))))
  clear hbx3
  go_wp2_with fail
  refine HCW.out.mono ?_
  rintro e w4 ⟨v, rfl, ho, hb4⟩
  have HF := Lib.hid (show RetIB (row win (ord n) n (2 ^ n) 0) ok w (.returned (.tuple #[v, .bool ok])) w4 from ⟨v, rfl, ho.mono (by omega) (Nat.le_refl _), HB3.out.trans (hb4.mono (by omega))⟩)
  clear ho hb4
  go_wp2_with fail
  go_ret2
  exact HF.out
end Go.Proofs.Ytkcpncngkmnmdaa.swingw
