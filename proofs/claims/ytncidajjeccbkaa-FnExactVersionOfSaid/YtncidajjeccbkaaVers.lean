/- The walks of VersionOf: the model's and the program's. -/
import Derived.Test.YtncidajjeccbkaaAtW
import Derived.BigQuiet
import Derived.Test.YtncidajjeccbkaaWhere3
namespace Go.Proofs.Ytncidajjeccbkaa.vers
open Go.RowKit own pp nums samplesv setcmp setord cls classt rising atw
set_option linter.unusedVariables false
set_option linter.unusedSimpArgs false

set_option maxRecDepth 100000 in
set_option maxHeartbeats 4000000 in
theorem spec_no1 (a : Option Addr) (rows : List (List Int)) (c : Nat) (a1 : Option Addr) (set : List Int) (c1 : Nat) (a2 : Option Addr) (labels : List Int) (c2 : Nat) (w : World) (hr : grid.Reads w a rows) (hq : ints.Reads .i64 w a1 set) (hl : ints.Reads .i64 w a2 labels) (hn : rows.length ≤ 1048576) (hm : ∀ r ∈ rows, r.length ≤ 1048576) (hz : set.length ≤ 1048576) (hz2 : labels.length ≤ 1048576) (hk : setB rows set = false) :
    Calls Try.prog 42 #[.slice a rows.length c, .slice a1 set.length c1, .slice a2 labels.length c2] w (RetIB [] false w) := by
  have HS := Lib.hid (fun (wa : World) (hb : Below w.heap.size w wa) => classt.spec_set a rows c a1 set c1 wa (hr.below hb) (hq.below hb) hn hm hz false (Lib.hid hk))
  clear hr hq hl hm hk
  go_enter Try.func42, Try.ntmps42
  go_wp2_with fail
  refine (HS.out _ (Below.refl _ _)).mono ?_
  rintro e w' ⟨rfl, m, rfl⟩
  go_wp2_with fail
  go_ret2
  exact ret_empty (ints.below_drewN (Below.refl _ _) m)
set_option maxRecDepth 100000 in
set_option maxHeartbeats 4000000 in
theorem spec_no2 (a : Option Addr) (rows : List (List Int)) (c : Nat) (a1 : Option Addr) (set : List Int) (c1 : Nat) (a2 : Option Addr) (labels : List Int) (c2 : Nat) (w : World) (hr : grid.Reads w a rows) (hq : ints.Reads .i64 w a1 set) (hl : ints.Reads .i64 w a2 labels) (hn : rows.length ≤ 1048576) (hm : ∀ r ∈ rows, r.length ≤ 1048576) (hz : set.length ≤ 1048576) (hz2 : labels.length ≤ 1048576) (hk : setB rows set = true) (hne : labels.length ≠ set.length) :
    Calls Try.prog 42 #[.slice a rows.length c, .slice a1 set.length c1, .slice a2 labels.length c2] w (RetIB [] false w) := by
  have HS := Lib.hid (fun (wa : World) (hb : Below w.heap.size w wa) => classt.spec_set a rows c a1 set c1 wa (hr.below hb) (hq.below hb) hn hm hz true (Lib.hid hk))
  have g1 : ((labels.length : Int) != (set.length : Int)) = true := by rw [bne_iff_ne]; omega
  clear hr hq hl hm hk hne
  go_enter Try.func42, Try.ntmps42
  go_wp2_with fail
  refine (HS.out _ (Below.refl _ _)).mono ?_
  rintro e w' ⟨rfl, m, rfl⟩
  go_wp2_with fail
  go_ret2
  exact ret_empty (ints.below_drewN (Below.refl _ _) m)
set_option maxRecDepth 100000 in
set_option maxHeartbeats 4000000 in
theorem spec_no3 (a : Option Addr) (rows : List (List Int)) (c : Nat) (a1 : Option Addr) (set : List Int) (c1 : Nat) (a2 : Option Addr) (labels : List Int) (c2 : Nat) (w : World) (hr : grid.Reads w a rows) (hq : ints.Reads .i64 w a1 set) (hl : ints.Reads .i64 w a2 labels) (hn : rows.length ≤ 1048576) (hm : ∀ r ∈ rows, r.length ≤ 1048576) (hz : set.length ≤ 1048576) (hz2 : labels.length ≤ 1048576) (hk : setB rows set = true) (hne : labels.length = set.length) (hb2 : labelsB labels = false) :
    Calls Try.prog 42 #[.slice a rows.length c, .slice a1 set.length c1, .slice a2 labels.length c2] w (RetIB [] false w) := by
  have HS := Lib.hid (fun (wa : World) (hb : Below w.heap.size w wa) => classt.spec_set a rows c a1 set c1 wa (hr.below hb) (hq.below hb) hn hm hz true (Lib.hid hk))
  have HL := Lib.hid (fun (wa : World) (hb : Below w.heap.size w wa) => samplesv.spec_labels a2 labels c2 wa (hl.below hb) hz2 false (Lib.hid hb2))
  have g1 : ((labels.length : Int) != (set.length : Int)) = false := by rw [bne_eq_false_iff_eq]; omega
  clear hr hq hl hm hk hne hb2
  go_enter Try.func42, Try.ntmps42
  go_wp2_with fail
  refine (HS.out _ (Below.refl _ _)).mono ?_
  rintro e w' ⟨rfl, m, rfl⟩
  go_wp2_with fail
  refine (HL.out _ (ints.below_drewN (Below.refl _ _) m)).mono ?_
  rintro e w' ⟨rfl, rfl⟩
  go_wp2_with fail
  go_ret2
  exact ret_empty (ints.below_drewN (Below.refl _ _) m)
set_option maxRecDepth 100000 in
set_option maxHeartbeats 4000000 in
theorem spec_yes (a : Option Addr) (rows : List (List Int)) (c : Nat) (a1 : Option Addr) (set : List Int) (c1 : Nat) (a2 : Option Addr) (labels : List Int) (c2 : Nat) (w : World) (hr : grid.Reads w a rows) (hq : ints.Reads .i64 w a1 set) (hl : ints.Reads .i64 w a2 labels) (hn : rows.length ≤ 1048576) (hm : ∀ r ∈ rows, r.length ≤ 1048576) (hz : set.length ≤ 1048576) (hz2 : labels.length ≤ 1048576) (hk : setB rows set = true) (hne : labels.length = set.length) (hb2 : labelsB labels = true) :
    Calls Try.prog 42 #[.slice a rows.length c, .slice a1 set.length c1, .slice a2 labels.length c2] w (RetIB (pwh.placesTo (hasB rows set labels) rows.length) true w) := by
  have HS := Lib.hid (fun (wa : World) (hb : Below w.heap.size w wa) => classt.spec_set a rows c a1 set c1 wa (hr.below hb) (hq.below hb) hn hm hz true (Lib.hid hk))
  have HL := Lib.hid (fun (wa : World) (hb : Below w.heap.size w wa) => samplesv.spec_labels a2 labels c2 wa (hl.below hb) hz2 true (Lib.hid hb2))
  obtain ⟨hcl, hri⟩ := (setB_iff rows set).1 hk
  have hC := cls_of hcl
  have hs8 := rises_len hri
  have hin : ∀ i, i < rows.length → (rows.getD i []).length ≤ 8 ∧ Inside (rows.getD i []).length set := fun i hi => by
    rw [hC.len i hi]; exact ⟨hC.m8, rises_inside hri⟩
  have h256 := hC.top
  have h8 := hC.m8
  have g1 : ((labels.length : Int) != (set.length : Int)) = false := by rw [bne_eq_false_iff_eq]; omega
  have HV := Lib.hid (fun (wa : World) (hb : Below w.heap.size w wa) => spec_version a rows c a1 set c1 a2 labels c2 wa (hr.below hb) (hq.below hb) (hl.below hb) h256 hin (by omega) hz2)
  clear hr hq hl hm hk hne hb2 hin hC hri hcl hs8 h8
  go_enter Try.func42, Try.ntmps42
  go_wp2_with fail
  refine (HS.out _ (Below.refl _ _)).mono ?_
  rintro e w' ⟨rfl, m, rfl⟩
  go_wp2_with fail
  refine (HL.out _ (ints.below_drewN (Below.refl _ _) m)).mono ?_
  rintro e w' ⟨rfl, rfl⟩
  go_wp2_with fail
  refine (HV.out _ (ints.below_drewN (Below.refl _ _) m)).mono ?_
  rintro e w4 ⟨v, rfl, ho, hb4⟩
  have HF := Lib.hid (show RetIB (pwh.placesTo (hasB rows set labels) rows.length) true w (.returned (.tuple #[v, .bool true])) w4 from ⟨v, rfl, ho, (ints.below_drewN (Below.refl _ _) m).trans hb4⟩)
  clear ho hb4
  go_wp2_with fail
  go_ret2
  exact HF.out
set_option maxRecDepth 100000 in
set_option maxHeartbeats 4000000 in
theorem impl_no1 (a : Option Addr) (rows : List (List Int)) (c : Nat) (a1 : Option Addr) (set : List Int) (c1 : Nat) (a2 : Option Addr) (labels : List Int) (c2 : Nat) (w : World) (hr : grid.Reads w a rows) (hq : ints.Reads .i64 w a1 set) (hl : ints.Reads .i64 w a2 labels) (hn : rows.length ≤ 1048576) (hm : ∀ r ∈ rows, r.length ≤ 1048576) (hz : set.length ≤ 1048576) (hz2 : labels.length ≤ 1048576) (hk : setB rows set = false) :
    Calls Try.prog 43 #[.slice a rows.length c, .slice a1 set.length c1, .slice a2 labels.length c2] w (RetIB [] false w) := by
  have HS := Lib.hid (fun (wa : World) (hb : Below w.heap.size w wa) => classt.impl_set a rows c a1 set c1 wa (hr.below hb) (hq.below hb) hn hm hz false (Lib.hid hk))
  clear hr hq hl hm hk
  go_enter Try.func43, Try.ntmps43
  obtain ⟨b1, hw1⟩ : ∃ b1 : World, b1 = w.alloc (.cells #[.slice a rows.length c] 22) := ⟨_, rfl⟩
  obtain ⟨b2, hw2⟩ : ∃ b2 : World, b2 = b1.alloc (.cells #[.slice a1 set.length c1] 30) := ⟨_, rfl⟩
  obtain ⟨b3, hw3⟩ : ∃ b3 : World, b3 = b2.alloc (.cells #[.slice a2 labels.length c2] 30) := ⟨_, rfl⟩
  have z1 : b1.heap.size = w.heap.size + 1 := by rw [hw1]; simp
  have z2 : b2.heap.size = w.heap.size + 2 := by rw [hw2]; simp; omega
  have z3 : b3.heap.size = w.heap.size + 3 := by rw [hw3]; simp; omega
  have x0_0 := (by rw [hw3]; exact cell_old _ (by rw [hw2]; exact cell_old _ (by rw [hw1]; exact cell_new _ _ _ rfl rfl : b1.cell? ⟨w.heap.size, 0, none⟩ = some (.slice a rows.length c)) : b2.cell? ⟨w.heap.size, 0, none⟩ = some (.slice a rows.length c)) : b3.cell? ⟨w.heap.size, 0, none⟩ = some (.slice a rows.length c))
  have x1_0 := (by rw [hw3]; exact cell_old _ (by rw [hw2]; exact cell_new _ _ _ z1.symm rfl : b2.cell? ⟨w.heap.size + 1, 0, none⟩ = some (.slice a1 set.length c1)) : b3.cell? ⟨w.heap.size + 1, 0, none⟩ = some (.slice a1 set.length c1))
  have x2_0 := (by rw [hw3]; exact cell_new _ _ _ z2.symm rfl : b3.cell? ⟨w.heap.size + 2, 0, none⟩ = some (.slice a2 labels.length c2))
  have HB0 := Lib.hid (show Below w.heap.size w b3 by rw [hw3]; exact (show Below w.heap.size w b2 by rw [hw2]; exact (show Below w.heap.size w b1 by rw [hw1]; exact (Below.refl w.heap.size w).alloc (Nat.le_refl _) _).alloc (by omega) _).alloc (by omega) _)
  have s3 : w.heap.size + 3 ≤ b3.heap.size := by omega
  clear z1 z2 z3
  go_wp2_with fail
  rw [← hw1, ← hw2, ← hw3]
  clear hw1 hw2 hw3
  refine (HS.out _ HB0.out).mono ?_
  rintro e w' ⟨rfl, m, rfl⟩
  have y0 : (b3.drewN m).cell? ⟨w.heap.size, 0, none⟩ = some (.slice a rows.length c) := x0_0
  have y1 : (b3.drewN m).cell? ⟨w.heap.size + 1, 0, none⟩ = some (.slice a1 set.length c1) := x1_0
  have y2 : (b3.drewN m).cell? ⟨w.heap.size + 2, 0, none⟩ = some (.slice a2 labels.length c2) := x2_0
  go_wp2_with fail
  go_ret2
  exact ret_empty (ints.below_drewN HB0.out m)
set_option maxRecDepth 100000 in
set_option maxHeartbeats 4000000 in
theorem impl_no2 (a : Option Addr) (rows : List (List Int)) (c : Nat) (a1 : Option Addr) (set : List Int) (c1 : Nat) (a2 : Option Addr) (labels : List Int) (c2 : Nat) (w : World) (hr : grid.Reads w a rows) (hq : ints.Reads .i64 w a1 set) (hl : ints.Reads .i64 w a2 labels) (hn : rows.length ≤ 1048576) (hm : ∀ r ∈ rows, r.length ≤ 1048576) (hz : set.length ≤ 1048576) (hz2 : labels.length ≤ 1048576) (hk : setB rows set = true) (hne : labels.length ≠ set.length) :
    Calls Try.prog 43 #[.slice a rows.length c, .slice a1 set.length c1, .slice a2 labels.length c2] w (RetIB [] false w) := by
  have HS := Lib.hid (fun (wa : World) (hb : Below w.heap.size w wa) => classt.impl_set a rows c a1 set c1 wa (hr.below hb) (hq.below hb) hn hm hz true (Lib.hid hk))
  have g1 : ((labels.length : Int) != (set.length : Int)) = true := by rw [bne_iff_ne]; omega
  clear hr hq hl hm hk hne
  go_enter Try.func43, Try.ntmps43
  obtain ⟨b1, hw1⟩ : ∃ b1 : World, b1 = w.alloc (.cells #[.slice a rows.length c] 22) := ⟨_, rfl⟩
  obtain ⟨b2, hw2⟩ : ∃ b2 : World, b2 = b1.alloc (.cells #[.slice a1 set.length c1] 30) := ⟨_, rfl⟩
  obtain ⟨b3, hw3⟩ : ∃ b3 : World, b3 = b2.alloc (.cells #[.slice a2 labels.length c2] 30) := ⟨_, rfl⟩
  have z1 : b1.heap.size = w.heap.size + 1 := by rw [hw1]; simp
  have z2 : b2.heap.size = w.heap.size + 2 := by rw [hw2]; simp; omega
  have z3 : b3.heap.size = w.heap.size + 3 := by rw [hw3]; simp; omega
  have x0_0 := (by rw [hw3]; exact cell_old _ (by rw [hw2]; exact cell_old _ (by rw [hw1]; exact cell_new _ _ _ rfl rfl : b1.cell? ⟨w.heap.size, 0, none⟩ = some (.slice a rows.length c)) : b2.cell? ⟨w.heap.size, 0, none⟩ = some (.slice a rows.length c)) : b3.cell? ⟨w.heap.size, 0, none⟩ = some (.slice a rows.length c))
  have x1_0 := (by rw [hw3]; exact cell_old _ (by rw [hw2]; exact cell_new _ _ _ z1.symm rfl : b2.cell? ⟨w.heap.size + 1, 0, none⟩ = some (.slice a1 set.length c1)) : b3.cell? ⟨w.heap.size + 1, 0, none⟩ = some (.slice a1 set.length c1))
  have x2_0 := (by rw [hw3]; exact cell_new _ _ _ z2.symm rfl : b3.cell? ⟨w.heap.size + 2, 0, none⟩ = some (.slice a2 labels.length c2))
  have HB0 := Lib.hid (show Below w.heap.size w b3 by rw [hw3]; exact (show Below w.heap.size w b2 by rw [hw2]; exact (show Below w.heap.size w b1 by rw [hw1]; exact (Below.refl w.heap.size w).alloc (Nat.le_refl _) _).alloc (by omega) _).alloc (by omega) _)
  have s3 : w.heap.size + 3 ≤ b3.heap.size := by omega
  clear z1 z2 z3
  go_wp2_with fail
  rw [← hw1, ← hw2, ← hw3]
  clear hw1 hw2 hw3
  refine (HS.out _ HB0.out).mono ?_
  rintro e w' ⟨rfl, m, rfl⟩
  have y0 : (b3.drewN m).cell? ⟨w.heap.size, 0, none⟩ = some (.slice a rows.length c) := x0_0
  have y1 : (b3.drewN m).cell? ⟨w.heap.size + 1, 0, none⟩ = some (.slice a1 set.length c1) := x1_0
  have y2 : (b3.drewN m).cell? ⟨w.heap.size + 2, 0, none⟩ = some (.slice a2 labels.length c2) := x2_0
  go_wp2_with fail
  go_ret2
  exact ret_empty (ints.below_drewN HB0.out m)
set_option maxRecDepth 100000 in
set_option maxHeartbeats 4000000 in
theorem impl_no3 (a : Option Addr) (rows : List (List Int)) (c : Nat) (a1 : Option Addr) (set : List Int) (c1 : Nat) (a2 : Option Addr) (labels : List Int) (c2 : Nat) (w : World) (hr : grid.Reads w a rows) (hq : ints.Reads .i64 w a1 set) (hl : ints.Reads .i64 w a2 labels) (hn : rows.length ≤ 1048576) (hm : ∀ r ∈ rows, r.length ≤ 1048576) (hz : set.length ≤ 1048576) (hz2 : labels.length ≤ 1048576) (hk : setB rows set = true) (hne : labels.length = set.length) (hb2 : labelsB labels = false) :
    Calls Try.prog 43 #[.slice a rows.length c, .slice a1 set.length c1, .slice a2 labels.length c2] w (RetIB [] false w) := by
  have HS := Lib.hid (fun (wa : World) (hb : Below w.heap.size w wa) => classt.impl_set a rows c a1 set c1 wa (hr.below hb) (hq.below hb) hn hm hz true (Lib.hid hk))
  have HL := Lib.hid (fun (wa : World) (hb : Below w.heap.size w wa) => classi.impl_labels a2 labels c2 wa (hl.below hb) hz2 false (Lib.hid hb2))
  have g1 : ((labels.length : Int) != (set.length : Int)) = false := by rw [bne_eq_false_iff_eq]; omega
  clear hr hq hl hm hk hne hb2
  go_enter Try.func43, Try.ntmps43
  obtain ⟨b1, hw1⟩ : ∃ b1 : World, b1 = w.alloc (.cells #[.slice a rows.length c] 22) := ⟨_, rfl⟩
  obtain ⟨b2, hw2⟩ : ∃ b2 : World, b2 = b1.alloc (.cells #[.slice a1 set.length c1] 30) := ⟨_, rfl⟩
  obtain ⟨b3, hw3⟩ : ∃ b3 : World, b3 = b2.alloc (.cells #[.slice a2 labels.length c2] 30) := ⟨_, rfl⟩
  have z1 : b1.heap.size = w.heap.size + 1 := by rw [hw1]; simp
  have z2 : b2.heap.size = w.heap.size + 2 := by rw [hw2]; simp; omega
  have z3 : b3.heap.size = w.heap.size + 3 := by rw [hw3]; simp; omega
  have x0_0 := (by rw [hw3]; exact cell_old _ (by rw [hw2]; exact cell_old _ (by rw [hw1]; exact cell_new _ _ _ rfl rfl : b1.cell? ⟨w.heap.size, 0, none⟩ = some (.slice a rows.length c)) : b2.cell? ⟨w.heap.size, 0, none⟩ = some (.slice a rows.length c)) : b3.cell? ⟨w.heap.size, 0, none⟩ = some (.slice a rows.length c))
  have x1_0 := (by rw [hw3]; exact cell_old _ (by rw [hw2]; exact cell_new _ _ _ z1.symm rfl : b2.cell? ⟨w.heap.size + 1, 0, none⟩ = some (.slice a1 set.length c1)) : b3.cell? ⟨w.heap.size + 1, 0, none⟩ = some (.slice a1 set.length c1))
  have x2_0 := (by rw [hw3]; exact cell_new _ _ _ z2.symm rfl : b3.cell? ⟨w.heap.size + 2, 0, none⟩ = some (.slice a2 labels.length c2))
  have HB0 := Lib.hid (show Below w.heap.size w b3 by rw [hw3]; exact (show Below w.heap.size w b2 by rw [hw2]; exact (show Below w.heap.size w b1 by rw [hw1]; exact (Below.refl w.heap.size w).alloc (Nat.le_refl _) _).alloc (by omega) _).alloc (by omega) _)
  have s3 : w.heap.size + 3 ≤ b3.heap.size := by omega
  clear z1 z2 z3
  go_wp2_with fail
  rw [← hw1, ← hw2, ← hw3]
  clear hw1 hw2 hw3
  refine (HS.out _ HB0.out).mono ?_
  rintro e w' ⟨rfl, m, rfl⟩
  have y0 : (b3.drewN m).cell? ⟨w.heap.size, 0, none⟩ = some (.slice a rows.length c) := x0_0
  have y1 : (b3.drewN m).cell? ⟨w.heap.size + 1, 0, none⟩ = some (.slice a1 set.length c1) := x1_0
  have y2 : (b3.drewN m).cell? ⟨w.heap.size + 2, 0, none⟩ = some (.slice a2 labels.length c2) := x2_0
  go_wp2_with fail
  refine (HL.out _ (ints.below_drewN HB0.out m)).mono ?_
  rintro e w' ⟨rfl, m2, rfl⟩
  have u0 : ((b3.drewN m).drewN m2).cell? ⟨w.heap.size, 0, none⟩ = some (.slice a rows.length c) := y0
  have u1 : ((b3.drewN m).drewN m2).cell? ⟨w.heap.size + 1, 0, none⟩ = some (.slice a1 set.length c1) := y1
  have u2 : ((b3.drewN m).drewN m2).cell? ⟨w.heap.size + 2, 0, none⟩ = some (.slice a2 labels.length c2) := y2
  go_wp2_with fail
  go_ret2
  exact ret_empty (ints.below_drewN HB0.out _)
set_option maxRecDepth 100000 in
set_option maxHeartbeats 4000000 in
theorem closure (k : Nat) (B : Nat) (a : Option Addr) (rows : List (List Int)) (c : Nat) (a1 : Option Addr) (set : List Int) (c1 : Nat) (a2 : Option Addr) (labels : List Int) (c2 : Nat) (w : World) (x0 : w.cell? ⟨B, 0, none⟩ = some (.slice a rows.length c)) (x1 : w.cell? ⟨B + 1, 0, none⟩ = some (.slice a1 set.length c1)) (x2 : w.cell? ⟨B + 2, 0, none⟩ = some (.slice a2 labels.length c2))
    (hr : grid.Reads w a rows) (hq : ints.Reads .i64 w a1 set) (hl : ints.Reads .i64 w a2 labels) (hk : k < rows.length) (h256 : rows.length ≤ 256) (hin : (rows.getD k []).length ≤ 8 ∧ Inside (rows.getD k []).length set) (hs8 : set.length ≤ 8) (hne : labels.length = set.length) :
    Calls Try.prog 77 #[.int .i64 k, .pointer (some ⟨B, 0, none⟩), .pointer (some ⟨B + 1, 0, none⟩), .pointer (some ⟨B + 2, 0, none⟩)] w (fun e w' => e = .returned (.bool (hasB rows set labels k)) ∧ Below w.heap.size w w') := by
  obtain ⟨b, off, p, q, rfl, _, hc, hpq, hrow⟩ := hr.at hk
  have HC := Lib.hid (fun (n : Nat) => (impl_has p (rows.getD k []) q a1 set c1 a2 labels c2 (w.drewN n) hrow hq hl (by omega) (by omega) hin.2 hne (hasB rows set labels k) (Lib.hid rfl)).mono (fun e w' ⟨he, m, hm⟩ => (⟨he, n + m, by rw [hm, World.drewN_drewN]⟩ : e = Ending.returned (.bool (hasB rows set labels k)) ∧ ∃ q, w' = w.drewN q)))
  have i1 : (0 : Int) ≤ (k : Int) := by omega
  have i2 : (k : Int) < (rows.length : Int) := by omega
  clear hr hq hl hrow hpq hin hne
  generalize hasB rows set labels k = hb at *
  generalize rows.getD k [] = r at *
  go_enter Try.func77, Try.ntmps77
  go_wp2_with fail
  go_quiet ((go_at_call 78; exact HC.out _))
  go_wp2_with fail
  go_ret
  exact ⟨rfl, ints.below_drewN (Below.refl _ _) _⟩
set_option maxRecDepth 100000 in
set_option maxHeartbeats 4000000 in
theorem impl_yes (a : Option Addr) (rows : List (List Int)) (c : Nat) (a1 : Option Addr) (set : List Int) (c1 : Nat) (a2 : Option Addr) (labels : List Int) (c2 : Nat) (w : World) (hr : grid.Reads w a rows) (hq : ints.Reads .i64 w a1 set) (hl : ints.Reads .i64 w a2 labels) (hn : rows.length ≤ 1048576) (hm : ∀ r ∈ rows, r.length ≤ 1048576) (hz : set.length ≤ 1048576) (hz2 : labels.length ≤ 1048576) (hk : setB rows set = true) (hne : labels.length = set.length) (hb2 : labelsB labels = true) :
    Calls Try.prog 43 #[.slice a rows.length c, .slice a1 set.length c1, .slice a2 labels.length c2] w (RetIB (pwh.placesTo (hasB rows set labels) rows.length) true w) := by
  have HS := Lib.hid (fun (wa : World) (hb : Below w.heap.size w wa) => classt.impl_set a rows c a1 set c1 wa (hr.below hb) (hq.below hb) hn hm hz true (Lib.hid hk))
  have HL := Lib.hid (fun (wa : World) (hb : Below w.heap.size w wa) => classi.impl_labels a2 labels c2 wa (hl.below hb) hz2 true (Lib.hid hb2))
  obtain ⟨hcl, hri⟩ := (setB_iff rows set).1 hk
  have hC := cls_of hcl
  have hs8 := rises_len hri
  have hin : ∀ i, i < rows.length → (rows.getD i []).length ≤ 8 ∧ Inside (rows.getD i []).length set := fun i hi => by
    rw [hC.len i hi]; exact ⟨hC.m8, rises_inside hri⟩
  have h256 := hC.top
  have h8 := hC.m8
  have g1 : ((labels.length : Int) != (set.length : Int)) = false := by rw [bne_eq_false_iff_eq]; omega
  have HW := Lib.hid (fun (wa : World) (hb : Below w.heap.size w wa) (hu0 : wa.cell? ⟨w.heap.size, 0, none⟩ = some (.slice a rows.length c)) (hu1 : wa.cell? ⟨w.heap.size + 1, 0, none⟩ = some (.slice a1 set.length c1)) (hu2 : wa.cell? ⟨w.heap.size + 2, 0, none⟩ = some (.slice a2 labels.length c2)) (hsz : w.heap.size + 3 ≤ wa.heap.size) =>
    pwh.where3 77 (enters_of Try.func77 (by kernel_rfl) rfl) (.pointer (some ⟨w.heap.size, 0, none⟩)) (.pointer (some ⟨w.heap.size + 1, 0, none⟩)) (.pointer (some ⟨w.heap.size + 2, 0, none⟩)) rows.length (hasB rows set labels) wa (by omega)
      (Lib.hid (fun k wr hk hbr => closure k w.heap.size a rows c a1 set c1 a2 labels c2 wr (cell_below hbr hu0 (by omega)) (cell_below hbr hu1 (by omega)) (cell_below hbr hu2 (by omega)) ((hr.below hb).below hbr) ((hq.below hb).below hbr) ((hl.below hb).below hbr) hk h256 (hin k hk) (by omega) hne)))
  clear hr hq hl hm hk hne hb2 hin hC hri hcl hs8 h8
  go_enter Try.func43, Try.ntmps43
  obtain ⟨b1, hw1⟩ : ∃ b1 : World, b1 = w.alloc (.cells #[.slice a rows.length c] 22) := ⟨_, rfl⟩
  obtain ⟨b2, hw2⟩ : ∃ b2 : World, b2 = b1.alloc (.cells #[.slice a1 set.length c1] 30) := ⟨_, rfl⟩
  obtain ⟨b3, hw3⟩ : ∃ b3 : World, b3 = b2.alloc (.cells #[.slice a2 labels.length c2] 30) := ⟨_, rfl⟩
  have z1 : b1.heap.size = w.heap.size + 1 := by rw [hw1]; simp
  have z2 : b2.heap.size = w.heap.size + 2 := by rw [hw2]; simp; omega
  have z3 : b3.heap.size = w.heap.size + 3 := by rw [hw3]; simp; omega
  have x0_0 := (by rw [hw3]; exact cell_old _ (by rw [hw2]; exact cell_old _ (by rw [hw1]; exact cell_new _ _ _ rfl rfl : b1.cell? ⟨w.heap.size, 0, none⟩ = some (.slice a rows.length c)) : b2.cell? ⟨w.heap.size, 0, none⟩ = some (.slice a rows.length c)) : b3.cell? ⟨w.heap.size, 0, none⟩ = some (.slice a rows.length c))
  have x1_0 := (by rw [hw3]; exact cell_old _ (by rw [hw2]; exact cell_new _ _ _ z1.symm rfl : b2.cell? ⟨w.heap.size + 1, 0, none⟩ = some (.slice a1 set.length c1)) : b3.cell? ⟨w.heap.size + 1, 0, none⟩ = some (.slice a1 set.length c1))
  have x2_0 := (by rw [hw3]; exact cell_new _ _ _ z2.symm rfl : b3.cell? ⟨w.heap.size + 2, 0, none⟩ = some (.slice a2 labels.length c2))
  have HB0 := Lib.hid (show Below w.heap.size w b3 by rw [hw3]; exact (show Below w.heap.size w b2 by rw [hw2]; exact (show Below w.heap.size w b1 by rw [hw1]; exact (Below.refl w.heap.size w).alloc (Nat.le_refl _) _).alloc (by omega) _).alloc (by omega) _)
  have s3 : w.heap.size + 3 ≤ b3.heap.size := by omega
  clear z1 z2 z3
  go_wp2_with fail
  rw [← hw1, ← hw2, ← hw3]
  clear hw1 hw2 hw3
  refine (HS.out _ HB0.out).mono ?_
  rintro e w' ⟨rfl, m, rfl⟩
  have y0 : (b3.drewN m).cell? ⟨w.heap.size, 0, none⟩ = some (.slice a rows.length c) := x0_0
  have y1 : (b3.drewN m).cell? ⟨w.heap.size + 1, 0, none⟩ = some (.slice a1 set.length c1) := x1_0
  have y2 : (b3.drewN m).cell? ⟨w.heap.size + 2, 0, none⟩ = some (.slice a2 labels.length c2) := x2_0
  go_wp2_with fail
  refine (HL.out _ (ints.below_drewN HB0.out m)).mono ?_
  rintro e w' ⟨rfl, m2, rfl⟩
  have u0 : ((b3.drewN m).drewN m2).cell? ⟨w.heap.size, 0, none⟩ = some (.slice a rows.length c) := y0
  have u1 : ((b3.drewN m).drewN m2).cell? ⟨w.heap.size + 1, 0, none⟩ = some (.slice a1 set.length c1) := y1
  have u2 : ((b3.drewN m).drewN m2).cell? ⟨w.heap.size + 2, 0, none⟩ = some (.slice a2 labels.length c2) := y2
  have hz9 : w.heap.size + 3 ≤ ((b3.drewN m).drewN m2).heap.size := by (show w.heap.size + 3 ≤ b3.heap.size); omega
  have HB9 := Lib.hid (show Below w.heap.size w ((b3.drewN m).drewN m2) from ints.below_drewN (ints.below_drewN HB0.out m) m2)
  generalize (b3.drewN m).drewN m2 = w3 at *
  go_wp2_with fail
  refine (HW.out _ HB9.out u0 u1 u2 hz9).mono ?_
  rintro e w4 ⟨v, rfl, ho, hb4⟩
  have HF := Lib.hid (show RetIB (pwh.placesTo (hasB rows set labels) rows.length) true w (.returned (.tuple #[v, .bool true])) w4 from ⟨v, rfl, ho.mono HB9.out.size (Nat.le_refl _), HB9.out.trans (hb4.mono HB9.out.size)⟩)
  clear ho hb4
  go_wp2_with fail
  go_ret2
  exact HF.out
end Go.Proofs.Ytncidajjeccbkaa.vers
