/- Several texts in one. -/
import Derived.BigQuiet
import Derived.Test.YtoephhhofkmgjabSpG25
import Derived.Test.YtoephhhofkmgjabSpG38
import Derived.Test.YtoephhhofkmgjabSpG6
namespace Go.Proofs.Ytoephhhofkmgjab.isthr
open Go.RowKit own pp nums range tab findp least5 findc
set_option linter.unusedVariables false
set_option linter.unusedSimpArgs false

set_option maxRecDepth 100000 in
set_option maxHeartbeats 4000000 in
theorem impl_no (n : Int) (a : Option Addr) (zs : List Int) (c : Nat) (w : World) (hr : ints.Reads .i64 w a zs) (hk : tab.tabB n zs = false) :
    Calls Try.prog 41 #[.int .i64 n, .slice a zs.length c] w (RetBB false false w) := by
  have HT := Lib.hid (fun (wa : World) (hb : Below w.heap.size w wa) => tab.impl_tab n a zs c wa (hr.below hb) false (Lib.hid hk))
  clear hr hk
  go_enter Try.func41, Try.ntmps41
  go_wp2_with fail
  refine (HT.out _ (Below.refl _ _)).mono ?_
  rintro e w' ⟨rfl, m, rfl⟩
  go_wp2_with fail
  go_ret2
  exact ⟨rfl, ints.below_drewN (Below.refl _ _) _⟩
set_option maxRecDepth 100000 in
set_option maxHeartbeats 4000000 in
theorem impl_yes (m0 : Nat) (a : Option Addr) (zs : List Int) (c : Nat) (w : World) (hr : ints.Reads .i64 w a zs) (hk : tab.tabB m0 zs = true) :
    Calls Try.prog 41 #[.int .i64 m0, .slice a zs.length c] w (RetBB (!(decide (0 < (findT m0 zs).length))) true w) := by
  have HT := Lib.hid (fun (wa : World) (hb : Below w.heap.size w wa) => tab.impl_tab m0 a zs c wa (hr.below hb) true (Lib.hid hk))
  have HC := Lib.hid (fun (wa : World) (hb : Below w.heap.size w wa) => first_trade m0 a zs c wa (hr.below hb) hk)
  have hthr := thr.thr_iff hk
  rw [← hthr]
  clear hr hk
  have hz : decide (0 < (findT m0 zs).length) = !(bs m0 zs (wts.wts m0) (wts.wts m0).length).2 := by rw [hthr, Bool.not_not]
  rw [hz] at HC
  clear hthr hz
  generalize findT m0 zs = out at *
  generalize (bs m0 zs (wts.wts m0) (wts.wts m0).length).1 = bw at *
  generalize (bs m0 zs (wts.wts m0) (wts.wts m0).length).2 = ok at *
  go_enter Try.func41, Try.ntmps41
  go_wp2_with fail
  refine (HT.out _ (Below.refl _ _)).mono ?_
  rintro e w' ⟨rfl, m, rfl⟩
  obtain ⟨wp, hwp⟩ : ∃ wp : World, wp = w.drewN m := ⟨_, rfl⟩
  have HBp := Lib.hid (show Below w.heap.size w wp by rw [hwp]; exact ints.below_drewN (Below.refl _ _) m)
  rw [← hwp]
  clear hwp
  go_wp2_with fail
  refine (HC.out wp HBp.out).mono ?_
  rintro e w2 ⟨v, rfl, hov, hb2⟩
  have hsz := HBp.out.size
  have HB2 := Lib.hid (HBp.out.trans (hb2.mono hsz))
  clear hov hb2
  cases ok
  all_goals (
    go_wp2_with fail
    go_ret2
    exact ⟨rfl, HB2.out⟩)
end Go.Proofs.Ytoephhhofkmgjab.isthr
