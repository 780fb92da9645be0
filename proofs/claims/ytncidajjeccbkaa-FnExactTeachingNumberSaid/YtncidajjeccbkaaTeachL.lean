/- The walks of TeachingSet and TeachingNumber: the model's and the program's. -/
import Derived.Test.YtncidajjeccbkaaTeachI
namespace Go.Proofs.Ytncidajjeccbkaa.teachl
open Go.RowKit own pp nums bitn setcmp setord edge setsp cls classt atw rising teachp teachs teachi idxf
set_option linter.unusedVariables false
set_option linter.unusedSimpArgs false

set_option maxRecDepth 100000 in
set_option maxHeartbeats 4000000 in
theorem first_closure (hv : Value) (B : Nat) (a : Option Addr) (rows : List (List Int)) (c : Nat) (i : Nat) (sp : Option Addr) (s : List Int) (sc : Nat) (w : World) (he : hv = .slice sp s.length sc) (x0 : w.cell? ⟨B, 0, none⟩ = some (.slice a rows.length c)) (x1 : w.cell? ⟨B + 1, 0, none⟩ = some (.int .i64 i))
    (hr : grid.Reads w a rows) (hcp : rows.length ≤ c) (hk : classB rows = true) (hi : i < rows.length) (hq : ints.Reads .i64 w sp s) (hin : Inside (rows.getD 0 []).length s) (hs8 : s.length ≤ 8) :
    Calls Try.prog 98 #[hv, .pointer (some ⟨B, 0, none⟩), .pointer (some ⟨B + 1, 0, none⟩)] w (fun e w' => e = .returned (.bool (teachB rows i s)) ∧ Below w.heap.size w w') := by
  subst he
  have HC := Lib.hid (impl_teaches a rows c i sp s sc w hr hcp hk hi hq hin hs8)
  generalize teachB rows i s = tb at *
  clear hr hq hin hk
  go_enter Try.func98, Try.ntmps98
  go_wp2_with fail
  refine HC.out.mono ?_
  rintro e w' ⟨rfl, hb⟩
  have HB := Lib.hid hb
  clear hb
  go_wp2_with fail
  go_ret
  exact ⟨rfl, HB.out⟩
set_option maxRecDepth 100000 in
set_option maxHeartbeats 4000000 in
theorem impl_first (a : Option Addr) (rows : List (List Int)) (c : Nat) (i : Nat) (lo hi' : Nat) (v : Value) (w : World) (hr : grid.Reads w a rows) (hcp : rows.length ≤ c) (hk : classB rows = true) (hi : i < rows.length) (ho : OwnG lo hi' w v (allS (rows.getD 0 []).length)) (hlo : hi' ≤ w.heap.size) :
    Calls Try.prog 72 #[.slice a rows.length c, .int .i64 i, v] w ((fun e w' => ∃ u, e = .returned u ∧ OwnI lo hi' w' u (teachS rows (rows.getD 0 []).length i) ∧ Below w.heap.size w w')) := by
  have hC := cls_of hk
  have h8 := hC.m8
  have HCL := Lib.hid hk
  have HR := Lib.hid hr
  obtain ⟨m, hm⟩ : ∃ m, (rows.getD 0 []).length = m := ⟨_, rfl⟩
  have HM0 := Lib.hid hm
  have hix : tIdx rows m i < (allS m).length := by rw [← hm]; exact idx_lt hC hi
  rw [hm] at ho h8 ⊢
  have hsl := all_length m
  have hp12 := bits8.pow8 h8
  have hll : (allS m).length ≤ 256 := by rw [hsl]; omega
  have HMEM := Lib.hid (fun k (hk : k < (allS m).length) => set_inside (getD_mem (allS m) [] k hk))
  have HFS := Lib.hid (show fstI (fun k => teachB rows i ((allS m).getD k [])) (allS m).length = ((tIdx rows m i : Nat) : Int) from fst_some hix (idx_at hix) (fun j hj => idx_before hj (by omega)))
  have HT := Lib.hid (show teachS rows m i = (allS m).getD (tIdx rows m i) [] from rfl)
  rw [HT.out]
  generalize tIdx rows m i = ix at *
  generalize allS m = L at *
  obtain ⟨gs, cap, sp, sc, rfl, hgs, hcx, hox⟩ := own_row ho hix
  obtain ⟨hd, hhd⟩ : ∃ hd : Nat → Value, ∀ j, j < L.length → w.cell? ⟨gs, j, none⟩ = some (hd j) := ⟨fun j => (w.cell? ⟨gs, j, none⟩).getD undef, fun j hj => by
    obtain ⟨_, _, p9, c9, e9, _, h9, _⟩ := own_row ho hj
    cases e9
    show w.cell? ⟨gs, j, none⟩ = some ((w.cell? ⟨gs, j, none⟩).getD undef)
    rw [h9]; rfl⟩
  have HO := Lib.hid ho
  have HOX := Lib.hid hox
  clear hr hk hC hm hsl hp12 ho hox HT
  generalize L.getD ix [] = s at *
  go_enter Try.func72, Try.ntmps72
  obtain ⟨b1, hw1⟩ : ∃ b1 : World, b1 = w.alloc (.cells #[.slice a rows.length c] 22) := ⟨_, rfl⟩
  obtain ⟨b2, hw2⟩ : ∃ b2 : World, b2 = b1.alloc (.cells #[.int .i64 i] 3) := ⟨_, rfl⟩
  have z1 : b1.heap.size = w.heap.size + 1 := by rw [hw1]; simp
  have z2 : b2.heap.size = w.heap.size + 2 := by rw [hw2]; simp; omega
  have x0_0 := (by rw [hw2]; exact cell_old _ (by rw [hw1]; exact cell_new _ _ _ rfl rfl : b1.cell? ⟨w.heap.size, 0, none⟩ = some (.slice a rows.length c)) : b2.cell? ⟨w.heap.size, 0, none⟩ = some (.slice a rows.length c))
  have x1_0 := (by rw [hw2]; exact cell_new _ _ _ z1.symm rfl : b2.cell? ⟨w.heap.size + 1, 0, none⟩ = some (.int .i64 i))
  have HB0 := Lib.hid (show Below w.heap.size w b2 by rw [hw2]; exact (show Below w.heap.size w b1 by rw [hw1]; exact (Below.refl w.heap.size w).alloc (Nat.le_refl _) _).alloc (by omega) _)
  have s2 : w.heap.size + 2 ≤ b2.heap.size := by omega
  clear z1 z2
  go_wp2_with fail
  rw [← hw1, ← hw2]
  clear hw1 hw2
  have HCLS := Lib.hid (fun (j : Nat) (W : World) (hj : j < L.length) (hbW : Below b2.heap.size b2 W) => by
    obtain ⟨_, _, p9, c9, e9, _, h9, ho9⟩ := own_row HO.out hj
    cases e9
    have he : hd j = .slice p9 (L.getD j []).length c9 := Option.some.inj ((hhd j hj).symm.trans h9)
    have hwW := HB0.out.trans (hbW.mono HB0.out.size)
    exact first_closure (hd j) w.heap.size a rows c i p9 (L.getD j []) c9 W he (cell_below hbW x0_0 (by omega)) (cell_below hbW x1_0 (by omega)) (HR.out.below hwW) hcp HCL.out hi (ho9.reads.below hwW) (by rw [HM0.out]; exact (HMEM.out j hj).1) (by have := (HMEM.out j hj).2; omega))
  have HI := Lib.hid (idx2 98 (enters_of Try.func98 (by kernel_rfl) rfl) (.pointer (some ⟨w.heap.size, 0, none⟩)) (.pointer (some ⟨w.heap.size + 1, 0, none⟩)) (some ⟨gs, 0, none⟩) L.length cap hd (fun k => teachB rows i (L.getD k [])) b2 (by omega)
    (Lib.hid (fun j hj => ⟨gs, 0, rfl, by omega, by rw [Nat.zero_add]; exact cell_below HB0.out (hhd j hj) hgs⟩)) (Lib.hid HCLS.out))
  rw [HFS.out] at HI
  clear HCLS HFS
  have i1 : (0 : Int) ≤ (ix : Int) := by omega
  have i2 : (ix : Int) < (L.length : Int) := by omega
  refine HI.out.mono ?_
  rintro e w5 ⟨rfl, hb5⟩
  have HB5 := Lib.hid (HB0.out.trans (hb5.mono HB0.out.size))
  have hc5 := cell_below HB5.out hcx hgs
  clear hb5 HI hcx x0_0 x1_0
  have HF := Lib.hid (show ∃ u, Ending.returned (.slice sp s.length sc) = .returned u ∧ OwnI lo hi' w5 u s ∧ Below w.heap.size w w5 from ⟨_, rfl, HOX.out.below HB5.out, HB5.out⟩)
  go_wp2_with fail
  go_ret
  exact HF.out
set_option maxRecDepth 100000 in
set_option maxHeartbeats 4000000 in
theorem spec_no1 (a : Option Addr) (rows : List (List Int)) (c : Nat) (i : Int) (w : World) (hr : grid.Reads w a rows) (hcp : rows.length ≤ c) (hn : rows.length ≤ 1048576) (hm : ∀ r ∈ rows, r.length ≤ 1048576) (hk : classB rows = false) :
    Calls Try.prog 37 #[.slice a rows.length c, .int .i64 i] w (RetIB [] false w) := by
  have HC := Lib.hid (fun (wa : World) (hb : Below w.heap.size w wa) => classs.spec_class a rows c wa (hr.below hb) hn hm false (Lib.hid hk))
  clear hr hk hm
  go_enter Try.func37, Try.ntmps37
  go_wp2_with fail
  refine (HC.out _ (Below.refl _ _)).mono ?_
  rintro e w' ⟨rfl, m, rfl⟩
  go_wp2_with fail
  go_ret2
  exact ret_empty (ints.below_drewN (Below.refl _ _) m)
set_option maxRecDepth 100000 in
set_option maxHeartbeats 4000000 in
theorem spec_no2 (a : Option Addr) (rows : List (List Int)) (c : Nat) (i : Int) (w : World) (hr : grid.Reads w a rows) (hcp : rows.length ≤ c) (hn : rows.length ≤ 1048576) (hm : ∀ r ∈ rows, r.length ≤ 1048576) (hk : classB rows = true) (hi : (decide (0 ≤ i) && decide (i ≤ (rows.length : Int) - 1)) = false) :
    Calls Try.prog 37 #[.slice a rows.length c, .int .i64 i] w (RetIB [] false w) := by
  have HC := Lib.hid (fun (wa : World) (hb : Below w.heap.size w wa) => classs.spec_class a rows c wa (hr.below hb) hn hm true (Lib.hid hk))
  have e1 : IntKind.i64.wrap ((rows.length : Int) - 1) = (rows.length : Int) - 1 := IntWalk.i64_in _ (by omega)
  have HI := Lib.hid (fun (wa : World) => nums.in_any i 0 ((rows.length : Int) - 1) wa false (Lib.hid hi))
  clear hr hk hm hi
  go_enter Try.func37, Try.ntmps37
  go_wp2_with fail
  refine (HC.out _ (Below.refl _ _)).mono ?_
  rintro e w' ⟨rfl, m, rfl⟩
  go_wp2_with fail
  refine (HI.out _).mono ?_
  rintro e w' ⟨rfl, rfl⟩
  go_wp2_with fail
  go_ret2
  exact ret_empty (ints.below_drewN (Below.refl _ _) m)
set_option maxRecDepth 100000 in
set_option maxHeartbeats 4000000 in
theorem spec_yes (a : Option Addr) (rows : List (List Int)) (c : Nat) (i : Nat) (w : World) (hr : grid.Reads w a rows) (hcp : rows.length ≤ c) (hn : rows.length ≤ 1048576) (hm : ∀ r ∈ rows, r.length ≤ 1048576) (hk : classB rows = true) (hi : i < rows.length) :
    Calls Try.prog 37 #[.slice a rows.length c, .int .i64 i] w (RetIB (teachS rows (rows.getD 0 []).length i) true w) := by
  have HC := Lib.hid (fun (wa : World) (hb : Below w.heap.size w wa) => classs.spec_class a rows c wa (hr.below hb) hn hm true (Lib.hid hk))
  have e1 : IntKind.i64.wrap ((rows.length : Int) - 1) = (rows.length : Int) - 1 := IntWalk.i64_in _ (by omega)
  have HI := Lib.hid (fun (wa : World) => nums.in_any (i : Int) 0 ((rows.length : Int) - 1) wa true (Lib.hid (by simp; omega)))
  have HT := Lib.hid (fun (wa : World) (hb : Below w.heap.size w wa) => spec_teach a rows c i wa (hr.below hb) hk hi)
  generalize teachS rows (rows.getD 0 []).length i = s at *
  clear hr hk hm hi
  go_enter Try.func37, Try.ntmps37
  go_wp2_with fail
  refine (HC.out _ (Below.refl _ _)).mono ?_
  rintro e w' ⟨rfl, m, rfl⟩
  go_wp2_with fail
  refine (HI.out _).mono ?_
  rintro e w' ⟨rfl, rfl⟩
  go_wp2_with fail
  refine (HT.out _ (ints.below_drewN (Below.refl _ _) m)).mono ?_
  rintro e w4 ⟨v, rfl, ho, hb4⟩
  have HF := Lib.hid (show RetIB s true w (.returned (.tuple #[v, .bool true])) w4 from ⟨v, rfl, ho, (ints.below_drewN (Below.refl _ _) m).trans hb4⟩)
  clear ho hb4
  go_wp2_with fail
  go_ret2
  exact HF.out
set_option maxRecDepth 100000 in
set_option maxHeartbeats 4000000 in
theorem impl_no (a : Option Addr) (rows : List (List Int)) (c : Nat) (i : Int) (w : World) (hr : grid.Reads w a rows) (hcp : rows.length ≤ c) (hn : rows.length ≤ 1048576) (hm : ∀ r ∈ rows, r.length ≤ 1048576) (hk : hypoB rows i = false) :
    Calls Try.prog 38 #[.slice a rows.length c, .int .i64 i] w (RetIB [] false w) := by
  have HC := Lib.hid (fun (wa : World) (hb : Below w.heap.size w wa) => classt.impl_hypo a rows c i wa (hr.below hb) hn hm false (Lib.hid hk))
  clear hr hk hm
  go_enter Try.func38, Try.ntmps38
  go_wp2_with fail
  refine (HC.out _ (Below.refl _ _)).mono ?_
  rintro e w' ⟨rfl, m, rfl⟩
  go_wp2_with fail
  go_ret2
  exact ret_empty (ints.below_drewN (Below.refl _ _) m)
set_option maxRecDepth 100000 in
set_option maxHeartbeats 4000000 in
theorem impl_yes (a : Option Addr) (rows : List (List Int)) (c : Nat) (i : Nat) (w : World) (hr : grid.Reads w a rows) (hcp : rows.length ≤ c) (hn : rows.length ≤ 1048576) (hm : ∀ r ∈ rows, r.length ≤ 1048576) (hkk : classB rows = true) (hi : i < rows.length) :
    Calls Try.prog 38 #[.slice a rows.length c, .int .i64 i] w (RetIB (teachS rows (rows.getD 0 []).length i) true w) := by
  have hk : hypoB rows (i : Int) = true := (hypo_iff _ _).2 ⟨hkk, by omega, by omega⟩
  have HC := Lib.hid (fun (wa : World) (hb : Below w.heap.size w wa) => classt.impl_hypo a rows c i wa (hr.below hb) hn hm true (Lib.hid hk))
  obtain ⟨b0, off0, p0, q0, rfl, hc0, hlen, h8⟩ := classt.row0 hr hkk
  have hbl : b0 < w.heap.size := by obtain ⟨_, _, _, _, hb⟩ := row_cell hr hlen; exact hb
  have HS := Lib.hid (fun (wa : World) => setss.impl_sets (rows.getD 0 []).length wa h8)
  have HT := Lib.hid (fun (lo hi' : Nat) (v : Value) (wa : World) (hb : Below w.heap.size w wa) (ho : OwnG lo hi' wa v (allS (rows.getD 0 []).length)) (hlo : hi' ≤ wa.heap.size) => impl_first (some ⟨b0, off0, none⟩) rows c i lo hi' v wa (hr.below hb) hcp hkk hi ho hlo)
  generalize teachS rows (rows.getD 0 []).length i = s at *
  generalize allS (rows.getD 0 []).length = L at *
  have i3 : (0 : Int) < (rows.length : Int) := by omega
  generalize rows.getD 0 [] = r0 at *
  clear hr hk hkk hm
  go_enter Try.func38, Try.ntmps38
  go_wp2_with fail
  refine (HC.out _ (Below.refl _ _)).mono ?_
  rintro e w' ⟨rfl, m, rfl⟩
  have hc1 : (w.drewN m).cell? ⟨b0, off0, none⟩ = some (.slice p0 r0.length q0) := hc0
  go_wp2_with fail
  refine (HS.out _).mono ?_
  rintro e w4 ⟨v, rfl, ho, hb4⟩
  have HB4 := Lib.hid (show Below w.heap.size w w4 from (ints.below_drewN (Below.refl _ _) m).trans hb4)
  have HO := Lib.hid (show OwnG w.heap.size w4.heap.size w4 v L from ho)
  clear ho hb4 hc1 hc0 HS
  obtain ⟨ga, gc, rfl, _, _, _⟩ := HO.out.slice
  go_wp2_with fail
  refine (HT.out _ _ _ w4 HB4.out HO.out (Nat.le_refl _)).mono ?_
  rintro e w5 ⟨u, rfl, ho, hb5⟩
  have HF := Lib.hid (show RetIB s true w (.returned (.tuple #[u, .bool true])) w5 from ⟨u, rfl, ho.mono (Nat.le_refl _) hb5.size, HB4.out.trans (hb5.mono HB4.out.size)⟩)
  clear ho hb5
  go_wp2_with fail
  go_ret2
  exact HF.out
end Go.Proofs.Ytncidajjeccbkaa.teachl
