/- The walks of two tables joined: the model's and the program's. -/
import Derived.Test.YtchlkcmgonbcjaaTab
import Derived.Test.YtchlkcmgonbcjaaConcat
namespace Go.Proofs.Ytchlkcmgonbcjaa.joint
open Go.RowKit own pp nums range tab own1 concat
set_option linter.unusedVariables false
set_option linter.unusedSimpArgs false

/-- Two tables that can be joined. -/
def joB (n : Int) (xs ys : List Int) : Bool := tabB n xs && (tabB n ys && decide (n ≠ 4))
theorem jo_len {n : Int} {zs : List Int} (h : tabB n zs = true) : 0 < zs.length ∧ zs.length ≤ 16 := by
  obtain ⟨m, _, h4, hp, h16, _⟩ := tab_nat h
  have := Nat.two_pow_pos m
  omega
set_option maxRecDepth 100000 in
set_option maxHeartbeats 4000000 in
theorem spec_n1 (n : Int) (a : Option Addr) (zs : List Int) (c : Nat) (a' : Option Addr) (ys : List Int) (c' : Nat) (w : World) (hr : ints.Reads .i64 w a zs) (hq : ints.Reads .i64 w a' ys) (hk1 : tabB n zs = false) :
    Calls Try.prog 37 #[.int .i64 n, .slice a zs.length c, .slice a' ys.length c'] w (RetIB [] false w) := by
  have HT := Lib.hid (fun (wa : World) (hb : Below w.heap.size w wa) => tab.spec_tab n a zs c wa (hr.below hb) false (Lib.hid hk1))
  clear hr hq hk1
  go_enter Try.func37, Try.ntmps37
  go_wp2_with fail
  refine (HT.out _ (Below.refl _ _)).mono ?_
  rintro e w' ⟨rfl, m, rfl⟩
  go_wp2_with fail
  go_ret2
  exact ret_empty (ints.below_drewN (Below.refl _ _) _)
set_option maxRecDepth 100000 in
set_option maxHeartbeats 4000000 in
theorem spec_n2 (n : Int) (a : Option Addr) (zs : List Int) (c : Nat) (a' : Option Addr) (ys : List Int) (c' : Nat) (w : World) (hr : ints.Reads .i64 w a zs) (hq : ints.Reads .i64 w a' ys) (hk1 : tabB n zs = true) (hk2 : tabB n ys = false) :
    Calls Try.prog 37 #[.int .i64 n, .slice a zs.length c, .slice a' ys.length c'] w (RetIB [] false w) := by
  have HT := Lib.hid (fun (wa : World) (hb : Below w.heap.size w wa) => tab.spec_tab n a zs c wa (hr.below hb) true (Lib.hid hk1))
  have HU := Lib.hid (fun (wa : World) (hb : Below w.heap.size w wa) => tab.spec_tab n a' ys c' wa (hq.below hb) false (Lib.hid hk2))
  clear hr hq hk1 hk2
  go_enter Try.func37, Try.ntmps37
  go_wp2_with fail
  refine (HT.out _ (Below.refl _ _)).mono ?_
  rintro e w' ⟨rfl, m, rfl⟩
  go_wp2_with fail
  refine (HU.out _ (ints.below_drewN (Below.refl _ _) m)).mono ?_
  rintro e w' ⟨rfl, m2, rfl⟩
  go_wp2_with fail
  go_ret2
  exact ret_empty (ints.below_drewN (Below.refl _ _) _)
set_option maxRecDepth 100000 in
set_option maxHeartbeats 4000000 in
theorem spec_n3 (n : Int) (a : Option Addr) (zs : List Int) (c : Nat) (a' : Option Addr) (ys : List Int) (c' : Nat) (w : World) (hr : ints.Reads .i64 w a zs) (hq : ints.Reads .i64 w a' ys) (hk1 : tabB n zs = true) (hk2 : tabB n ys = true) (h4 : n = 4) :
    Calls Try.prog 37 #[.int .i64 n, .slice a zs.length c, .slice a' ys.length c'] w (RetIB [] false w) := by
  have HT := Lib.hid (fun (wa : World) (hb : Below w.heap.size w wa) => tab.spec_tab n a zs c wa (hr.below hb) true (Lib.hid hk1))
  have HU := Lib.hid (fun (wa : World) (hb : Below w.heap.size w wa) => tab.spec_tab n a' ys c' wa (hq.below hb) true (Lib.hid hk2))
  clear hr hq hk1 hk2
  subst h4
  go_enter Try.func37, Try.ntmps37
  go_wp2_with fail
  refine (HT.out _ (Below.refl _ _)).mono ?_
  rintro e w' ⟨rfl, m, rfl⟩
  go_wp2_with fail
  refine (HU.out _ (ints.below_drewN (Below.refl _ _) m)).mono ?_
  rintro e w' ⟨rfl, m2, rfl⟩
  go_wp2_with fail
  go_ret2
  exact ret_empty (ints.below_drewN (Below.refl _ _) _)
set_option maxRecDepth 100000 in
set_option maxHeartbeats 4000000 in
theorem spec_no (n : Int) (a : Option Addr) (zs : List Int) (c : Nat) (a' : Option Addr) (ys : List Int) (c' : Nat) (w : World) (hr : ints.Reads .i64 w a zs) (hq : ints.Reads .i64 w a' ys) (hk : joB n zs ys = false) :
    Calls Try.prog 37 #[.int .i64 n, .slice a zs.length c, .slice a' ys.length c'] w (RetIB [] false w) := by
  cases hk1 : tabB n zs
  · exact spec_n1 n a zs c a' ys c' w hr hq hk1
  · cases hk2 : tabB n ys
    · exact spec_n2 n a zs c a' ys c' w hr hq hk1 hk2
    · by_cases h4 : n = 4
      · exact spec_n3 n a zs c a' ys c' w hr hq hk1 hk2 h4
      · unfold joB at hk
        rw [hk1, hk2, decide_eq_true h4] at hk
        cases hk
set_option maxRecDepth 100000 in
set_option maxHeartbeats 4000000 in
theorem spec_yes (n : Int) (a : Option Addr) (zs : List Int) (c : Nat) (a' : Option Addr) (ys : List Int) (c' : Nat) (w : World) (hr : ints.Reads .i64 w a zs) (hq : ints.Reads .i64 w a' ys) (hk : joB n zs ys = true) :
    Calls Try.prog 37 #[.int .i64 n, .slice a zs.length c, .slice a' ys.length c'] w (RetIB (zs ++ ys) true w) := by
  obtain ⟨i0, hi, hz0, hz1, hz2⟩ := info_parts own1.infoInt
  have hkk := hk
  unfold joB at hkk
  rw [Bool.and_eq_true, Bool.and_eq_true, decide_eq_true_eq] at hkk
  obtain ⟨hk1, hk2, hn4⟩ := hkk
  obtain ⟨hx0, hx16⟩ := jo_len hk1
  obtain ⟨hy0, hy16⟩ := jo_len hk2
  have HT := Lib.hid (fun (wa : World) (hb : Below w.heap.size w wa) => tab.spec_tab n a zs c wa (hr.below hb) true (Lib.hid hk1))
  have HU := Lib.hid (fun (wa : World) (hb : Below w.heap.size w wa) => tab.spec_tab n a' ys c' wa (hq.below hb) true (Lib.hid hk2))
  have g4 : (n == 4) = false := by rw [beq_eq_false_iff_ne]; exact hn4
  have HR := Lib.hid hr
  have HQ := Lib.hid hq
  clear hr hq hk1 hk2 hk hn4
  go_enter Try.func37, Try.ntmps37
  go_wp2_with fail
  refine (HT.out _ (Below.refl _ _)).mono ?_
  rintro e w' ⟨rfl, m, rfl⟩
  go_wp2_with fail
  refine (HU.out _ (ints.below_drewN (Below.refl _ _) m)).mono ?_
  rintro e w' ⟨rfl, m2, rfl⟩
  rw [World.drewN_drewN]
  obtain ⟨wp, hwp⟩ : ∃ wp : World, wp = w.drewN (m + m2) := ⟨_, rfl⟩
  have HBp := Lib.hid (show Below w.heap.size w wp by rw [hwp]; exact ints.below_drewN (Below.refl _ _) (m + m2))
  have hsp := HBp.out.size
  rw [← hwp]
  clear hwp
  go_wp2_with fail
  refine (spec_own a zs c wp (HR.out.below HBp.out) (by omega) hx0).mono ?_
  rintro e w2 ⟨v, rfl, hov, hb2⟩
  obtain ⟨by', oy, hya, hby, hcy⟩ := reads_pos ((HQ.out.below HBp.out).below hb2) hy0
  subst hya
  have HNW := Lib.hid (news_at hcy)
  have HB2 := Lib.hid (HBp.out.trans (hb2.mono hsp))
  have HV := Lib.hid hov
  have HO := Lib.hid hov.1
  have hs2 := hb2.size
  clear hov hb2 hcy
  go_wp2_with (at_builtin; refine wpList_append_own _ rfl _ _ 22 rfl wp.heap.size 3 i0 (.int .i64 0) 1 8 Try.underlying22 hi hz0 hz1 hz2 rfl (by decide) _ _ _ rfl HO.out ⟨by', oy, none⟩ ys.length c' (ys.map (Value.int .i64)) rfl (by simp) HNW.out (by simp [Value.oneCell']) (by unfold maxLen; omega) (by omega) (by omega) ?_; intro v' w3 hown' hgrow _)
  have HB3 := Lib.hid (HB2.out.grown hgrow (by omega) (fun g e => by have := (HV.out.lt e).1; omega))
  have HO3 := Lib.hid (show w3.ownsRow wp.heap.size 3 1 v' (zs ++ ys).length ((zs ++ ys).map (Value.int .i64)) by simpa using hown')
  clear hown' hgrow
  go_wp2_with fail
  go_ret2
  exact ⟨_, rfl, (OwnI.of HO3.out).mono hsp (Nat.le_refl _), HB3.out⟩
set_option maxRecDepth 100000 in
set_option maxHeartbeats 4000000 in
theorem impl_n1 (n : Int) (a : Option Addr) (zs : List Int) (c : Nat) (a' : Option Addr) (ys : List Int) (c' : Nat) (w : World) (hr : ints.Reads .i64 w a zs) (hq : ints.Reads .i64 w a' ys) (h4 : ¬ 4 ≤ n) (hk1 : tabB n zs = false) :
    Calls Try.prog 38 #[.int .i64 n, .slice a zs.length c, .slice a' ys.length c'] w (RetIB [] false w) := by
  have HT := Lib.hid (fun (wa : World) (hb : Below w.heap.size w wa) => tab.impl_tab n a zs c wa (hr.below hb) false (Lib.hid hk1))
  clear hr hq hk1
  go_enter Try.func38, Try.ntmps38
  go_wp2_with fail
  refine (HT.out _ (Below.refl _ _)).mono ?_
  rintro e w' ⟨rfl, m, rfl⟩
  go_wp2_with fail
  go_ret2
  exact ret_empty (ints.below_drewN (Below.refl _ _) _)
set_option maxRecDepth 100000 in
set_option maxHeartbeats 4000000 in
theorem impl_n2 (n : Int) (a : Option Addr) (zs : List Int) (c : Nat) (a' : Option Addr) (ys : List Int) (c' : Nat) (w : World) (hr : ints.Reads .i64 w a zs) (hq : ints.Reads .i64 w a' ys) (h4 : ¬ 4 ≤ n) (hk1 : tabB n zs = true) (hk2 : tabB n ys = false) :
    Calls Try.prog 38 #[.int .i64 n, .slice a zs.length c, .slice a' ys.length c'] w (RetIB [] false w) := by
  have HT := Lib.hid (fun (wa : World) (hb : Below w.heap.size w wa) => tab.impl_tab n a zs c wa (hr.below hb) true (Lib.hid hk1))
  have HU := Lib.hid (fun (wa : World) (hb : Below w.heap.size w wa) => tab.impl_tab n a' ys c' wa (hq.below hb) false (Lib.hid hk2))
  clear hr hq hk1 hk2
  go_enter Try.func38, Try.ntmps38
  go_wp2_with fail
  refine (HT.out _ (Below.refl _ _)).mono ?_
  rintro e w' ⟨rfl, m, rfl⟩
  go_wp2_with fail
  refine (HU.out _ (ints.below_drewN (Below.refl _ _) m)).mono ?_
  rintro e w' ⟨rfl, m2, rfl⟩
  go_wp2_with fail
  go_ret2
  exact ret_empty (ints.below_drewN (Below.refl _ _) _)
set_option maxRecDepth 100000 in
set_option maxHeartbeats 4000000 in
theorem impl_n3 (n : Int) (a : Option Addr) (zs : List Int) (c : Nat) (a' : Option Addr) (ys : List Int) (c' : Nat) (w : World) (hr : ints.Reads .i64 w a zs) (hq : ints.Reads .i64 w a' ys) (h4 : 4 ≤ n) :
    Calls Try.prog 38 #[.int .i64 n, .slice a zs.length c, .slice a' ys.length c'] w (RetIB [] false w) := by
  clear hr hq
  go_enter Try.func38, Try.ntmps38
  go_wp2_with fail
  go_ret2
  exact ret_empty (Below.refl _ _)
set_option maxRecDepth 100000 in
set_option maxHeartbeats 4000000 in
theorem impl_no (n : Int) (a : Option Addr) (zs : List Int) (c : Nat) (a' : Option Addr) (ys : List Int) (c' : Nat) (w : World) (hr : ints.Reads .i64 w a zs) (hq : ints.Reads .i64 w a' ys) (hk : joB n zs ys = false) :
    Calls Try.prog 38 #[.int .i64 n, .slice a zs.length c, .slice a' ys.length c'] w (RetIB [] false w) := by
  by_cases h4 : 4 ≤ n
  · exact impl_n3 n a zs c a' ys c' w hr hq h4
  · cases hk1 : tabB n zs
    · exact impl_n1 n a zs c a' ys c' w hr hq h4 hk1
    · cases hk2 : tabB n ys
      · exact impl_n2 n a zs c a' ys c' w hr hq h4 hk1 hk2
      · unfold joB at hk
        rw [hk1, hk2, decide_eq_true (show n ≠ 4 by omega)] at hk
        cases hk
set_option maxRecDepth 100000 in
set_option maxHeartbeats 4000000 in
theorem impl_yes (n : Int) (a : Option Addr) (zs : List Int) (c : Nat) (a' : Option Addr) (ys : List Int) (c' : Nat) (w : World) (hr : ints.Reads .i64 w a zs) (hq : ints.Reads .i64 w a' ys) (hk : joB n zs ys = true) :
    Calls Try.prog 38 #[.int .i64 n, .slice a zs.length c, .slice a' ys.length c'] w (RetIB (zs ++ ys) true w) := by
  have hkk := hk
  unfold joB at hkk
  rw [Bool.and_eq_true, Bool.and_eq_true, decide_eq_true_eq] at hkk
  obtain ⟨hk1, hk2, hn4⟩ := hkk
  obtain ⟨hx0, hx16⟩ := jo_len hk1
  obtain ⟨hy0, hy16⟩ := jo_len hk2
  have h4 : ¬ 4 ≤ n := by have := ((tab_iff _ _).1 hk1).1; omega
  have HT := Lib.hid (fun (wa : World) (hb : Below w.heap.size w wa) => tab.impl_tab n a zs c wa (hr.below hb) true (Lib.hid hk1))
  have HU := Lib.hid (fun (wa : World) (hb : Below w.heap.size w wa) => tab.impl_tab n a' ys c' wa (hq.below hb) true (Lib.hid hk2))
  have HR := Lib.hid hr
  have HQ := Lib.hid hq
  clear hr hq hk1 hk2 hk hn4
  go_enter Try.func38, Try.ntmps38
  go_wp2_with fail
  refine (HT.out _ (Below.refl _ _)).mono ?_
  rintro e w' ⟨rfl, m, rfl⟩
  go_wp2_with fail
  refine (HU.out _ (ints.below_drewN (Below.refl _ _) m)).mono ?_
  rintro e w' ⟨rfl, m2, rfl⟩
  rw [World.drewN_drewN]
  obtain ⟨wp, hwp⟩ : ∃ wp : World, wp = w.drewN (m + m2) := ⟨_, rfl⟩
  have HBp := Lib.hid (show Below w.heap.size w wp by rw [hwp]; exact ints.below_drewN (Below.refl _ _) (m + m2))
  have hsp := HBp.out.size
  rw [← hwp]
  clear hwp
  have HBA := Lib.hid (below_alloc wp (.cells #[.slice a zs.length c, .slice a' ys.length c'] 22))
  go_wp2_with fail
  refine (concat wp.heap.size _ a zs c a' ys c' _ ((HR.out.below HBp.out).below HBA.out) ((HQ.out.below HBp.out).below HBA.out) hx0 hy0 (by omega) (by omega) (cell_new _ _ _ rfl rfl) (cell_new _ _ _ rfl rfl) (by simp)).mono ?_
  rintro e w2 ⟨v, rfl, hov, hb2⟩
  have hs1 := HBA.out.size
  have HF := Lib.hid (show RetIB (zs ++ ys) true w (.returned (.tuple #[v, .bool true])) w2 from ⟨v, rfl, hov.mono (by omega) (Nat.le_refl _), HBp.out.trans ((HBA.out.trans (hb2.mono hs1)).mono hsp)⟩)
  clear hov hb2
  go_wp2_with fail
  go_ret2
  exact HF.out
end Go.Proofs.Ytchlkcmgonbcjaa.joint
