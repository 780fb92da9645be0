/- Several texts in one. -/
import Derived.BigQuiet
import Derived.Deep.DrawnRows
import Derived.Deep.RegionHeld3
import Derived.Test.YthohnnobahcdpaaBrG41
import Derived.Test.YthohnnobahcdpaaBrG37
namespace Go.Proofs.Ythohnnobahcdpaa.besti
open Go.RowKit own pp nums range samplesv samplest dots both sides sidesof hefts wm bndp bndi stmp stmo stms stmt margin bestp bests
set_option linter.unusedVariables false
set_option linter.unusedSimpArgs false

set_option maxRecDepth 100000 in
set_option maxHeartbeats 1600000 in
theorem spec_no1 (a : Option Addr) (rows : List (List Int)) (c : Nat) (a' : Option Addr) (zs : List Int) (c' : Nat) (e : Option Addr) (hs : List Int) (d : Nat) (w : World) (hr : grid.Reads w a rows) (hz : ints.Reads .i64 w a' zs) (hh : ints.Reads .i64 w e hs) (hn : rows.length ≤ 1048576) (hk : zs.length ≤ 1048576) (hm : ∀ r ∈ rows, r.length ≤ 1048576) (hnh : hs.length ≤ 1048576) (hp : hpB rows zs = false) :
    Calls Try.prog 34 #[.agg #[.slice a rows.length c, .slice a' zs.length c'], .slice e hs.length d] w (RetPB [] 0 false w) := by
  have Hhr := Lib.hid hr
  have Hhz := Lib.hid hz
  have Hhh := Lib.hid hh
  have Hhm := Lib.hid hm
  clear hr hz hh hm
  have HP := Lib.hid hp
  clear hp
  go_enter Try.func34, Try.ntmps34
  obtain ⟨wb1, hw1⟩ : ∃ wb1 : World, wb1 = w.alloc (.cells #[.slice a rows.length c, .slice a' zs.length c'] 38) := ⟨_, rfl⟩
  obtain ⟨wb2, hw2⟩ : ∃ wb2 : World, wb2 = wb1.alloc (.cells #[.slice none 0 0, .int .i64 0] 27) := ⟨_, rfl⟩
  have z1 : wb1.heap.size = w.heap.size + 1 := by rw [hw1]; simp
  have z2 : wb2.heap.size = w.heap.size + 2 := by rw [hw2]; simp; omega
  have x0_0 := (by rw [hw2]; exact cell_old _ (by rw [hw1]; exact cell_new _ _ _ rfl rfl : wb1.cell? ⟨w.heap.size, 0, none⟩ = some (.slice a rows.length c)) : wb2.cell? ⟨w.heap.size, 0, none⟩ = some (.slice a rows.length c))
  have x0_1 := (by rw [hw2]; exact cell_old _ (by rw [hw1]; exact cell_new _ _ _ rfl rfl : wb1.cell? ⟨w.heap.size, 1, none⟩ = some (.slice a' zs.length c')) : wb2.cell? ⟨w.heap.size, 1, none⟩ = some (.slice a' zs.length c'))
  have x1_0 := (by rw [hw2]; exact cell_new _ _ _ z1.symm rfl : wb2.cell? ⟨w.heap.size + 1, 0, none⟩ = some (.slice none 0 0))
  have x1_1 := (by rw [hw2]; exact cell_new _ _ _ z1.symm rfl : wb2.cell? ⟨w.heap.size + 1, 1, none⟩ = some (.int .i64 0))
  have HB0 := Lib.hid (show Below w.heap.size w wb2 by rw [hw2]; exact (show Below w.heap.size w wb1 by rw [hw1]; exact (Below.refl w.heap.size w).alloc (Nat.le_refl _) _).alloc (by omega) _)
  have s2 : w.heap.size + 2 ≤ wb2.heap.size := by omega
  have f1_0 := (by rw [hw2]; exact fro_new _ _ _ z1.symm : wb2.frozen? ⟨w.heap.size + 1, 0, none⟩ = false)
  have f1_1 := (by rw [hw2]; exact fro_new _ _ _ z1.symm : wb2.frozen? ⟨w.heap.size + 1, 1, none⟩ = false)
  have HZ2 := Lib.hid z2
  clear z1 z2
  go_wp2_with fail
  rw [← hw1, ← hw2]
  clear hw1 hw2
  refine (spec_some a rows c a' zs c' _ (Hhr.out.below HB0.out) (Hhz.out.below HB0.out) hn hk Hhm.out false HP).mono ?_
  rintro e w1 ⟨rfl, hb⟩
  have s1 : wb2.heap.size ≤ w1.heap.size := hb.size
  have n1_0 : w.heap.size < w1.heap.size := by omega
  have n1_1 : w.heap.size + 1 < w1.heap.size := by omega
  replace x0_0 := cell_below hb x0_0 (by omega)
  replace x0_1 := cell_below hb x0_1 (by omega)
  replace x1_0 := cell_below hb x1_0 (by omega)
  replace x1_1 := cell_below hb x1_1 (by omega)
  replace f1_0 := fro_below hb f1_0 (by omega)
  replace f1_1 := fro_below hb f1_1 (by omega)
  have HB1 := Lib.hid (HB0.out.trans (hb.mono (by omega)))
  clear hb
  have z2 : ((w1.setCell ⟨w.heap.size + 1, 0, none⟩ (.slice none 0 0)).setCell ⟨w.heap.size + 1, 1, none⟩ (.int .i64 0)).cell? ⟨w.heap.size + 1, 0, none⟩ = some (.slice none 0 0) := (World.cell?_setCell_other _ _ _ _ (by simp)).trans (World.cell?_setCell_same _ _ _ x1_0)
  have z3 : ((w1.setCell ⟨w.heap.size + 1, 0, none⟩ (.slice none 0 0)).setCell ⟨w.heap.size + 1, 1, none⟩ (.int .i64 0)).cell? ⟨w.heap.size + 1, 1, none⟩ = some (.int .i64 0) := World.cell?_setCell_same _ _ _ ((World.cell?_setCell_other _ _ _ _ (by simp)).trans x1_1)
  go_wp2_with fail
  refine bodyPost_ret (v := .tuple #[.agg #[.slice none 0 0, .int .i64 0], .bool false]) (by simp [results, Try.results34, go_sem, z2, z3]) rfl ?_
  refine ⟨_, rfl, ?_, ?_⟩
  · exact OwnI.nil _ _ _
  · exact (HB1.out.setCell (by simp) _).setCell (by simp) _
set_option maxRecDepth 100000 in
set_option maxHeartbeats 1600000 in
theorem spec_no2 (a : Option Addr) (rows : List (List Int)) (c : Nat) (a' : Option Addr) (zs : List Int) (c' : Nat) (e : Option Addr) (hs : List Int) (d : Nat) (w : World) (hr : grid.Reads w a rows) (hz : ints.Reads .i64 w a' zs) (hh : ints.Reads .i64 w e hs) (hn : rows.length ≤ 1048576) (hk : zs.length ≤ 1048576) (hm : ∀ r ∈ rows, r.length ≤ 1048576) (hnh : hs.length ≤ 1048576) (hp : hpB rows zs = true) (hf : heftsB rows hs = false) :
    Calls Try.prog 34 #[.agg #[.slice a rows.length c, .slice a' zs.length c'], .slice e hs.length d] w (RetPB [] 0 false w) := by
  have Hhr := Lib.hid hr
  have Hhz := Lib.hid hz
  have Hhh := Lib.hid hh
  have Hhm := Lib.hid hm
  clear hr hz hh hm
  have HP := Lib.hid hp
  have HF := Lib.hid hf
  clear hp hf
  go_enter Try.func34, Try.ntmps34
  obtain ⟨wb1, hw1⟩ : ∃ wb1 : World, wb1 = w.alloc (.cells #[.slice a rows.length c, .slice a' zs.length c'] 38) := ⟨_, rfl⟩
  obtain ⟨wb2, hw2⟩ : ∃ wb2 : World, wb2 = wb1.alloc (.cells #[.slice none 0 0, .int .i64 0] 27) := ⟨_, rfl⟩
  have z1 : wb1.heap.size = w.heap.size + 1 := by rw [hw1]; simp
  have z2 : wb2.heap.size = w.heap.size + 2 := by rw [hw2]; simp; omega
  have x0_0 := (by rw [hw2]; exact cell_old _ (by rw [hw1]; exact cell_new _ _ _ rfl rfl : wb1.cell? ⟨w.heap.size, 0, none⟩ = some (.slice a rows.length c)) : wb2.cell? ⟨w.heap.size, 0, none⟩ = some (.slice a rows.length c))
  have x0_1 := (by rw [hw2]; exact cell_old _ (by rw [hw1]; exact cell_new _ _ _ rfl rfl : wb1.cell? ⟨w.heap.size, 1, none⟩ = some (.slice a' zs.length c')) : wb2.cell? ⟨w.heap.size, 1, none⟩ = some (.slice a' zs.length c'))
  have x1_0 := (by rw [hw2]; exact cell_new _ _ _ z1.symm rfl : wb2.cell? ⟨w.heap.size + 1, 0, none⟩ = some (.slice none 0 0))
  have x1_1 := (by rw [hw2]; exact cell_new _ _ _ z1.symm rfl : wb2.cell? ⟨w.heap.size + 1, 1, none⟩ = some (.int .i64 0))
  have HB0 := Lib.hid (show Below w.heap.size w wb2 by rw [hw2]; exact (show Below w.heap.size w wb1 by rw [hw1]; exact (Below.refl w.heap.size w).alloc (Nat.le_refl _) _).alloc (by omega) _)
  have s2 : w.heap.size + 2 ≤ wb2.heap.size := by omega
  have f1_0 := (by rw [hw2]; exact fro_new _ _ _ z1.symm : wb2.frozen? ⟨w.heap.size + 1, 0, none⟩ = false)
  have f1_1 := (by rw [hw2]; exact fro_new _ _ _ z1.symm : wb2.frozen? ⟨w.heap.size + 1, 1, none⟩ = false)
  have HZ2 := Lib.hid z2
  clear z1 z2
  go_wp2_with fail
  rw [← hw1, ← hw2]
  clear hw1 hw2
  refine (spec_some a rows c a' zs c' _ (Hhr.out.below HB0.out) (Hhz.out.below HB0.out) hn hk Hhm.out true HP).mono ?_
  rintro e w1 ⟨rfl, hb⟩
  have s1 : wb2.heap.size ≤ w1.heap.size := hb.size
  have n1_0 : w.heap.size < w1.heap.size := by omega
  have n1_1 : w.heap.size + 1 < w1.heap.size := by omega
  replace x0_0 := cell_below hb x0_0 (by omega)
  replace x0_1 := cell_below hb x0_1 (by omega)
  replace x1_0 := cell_below hb x1_0 (by omega)
  replace x1_1 := cell_below hb x1_1 (by omega)
  replace f1_0 := fro_below hb f1_0 (by omega)
  replace f1_1 := fro_below hb f1_1 (by omega)
  have HB1 := Lib.hid (HB0.out.trans (hb.mono (by omega)))
  clear hb
  go_wp2_with fail
  refine (spec_hefts a rows c a' zs c' e hs d _ (Hhh.out.below HB1.out) hnh hn false HF).mono ?_
  rintro e w2 ⟨rfl, hb⟩
  have s2 : w1.heap.size ≤ w2.heap.size := hb.size
  have n2_0 : w.heap.size < w2.heap.size := by omega
  have n2_1 : w.heap.size + 1 < w2.heap.size := by omega
  replace x0_0 := cell_below hb x0_0 (by omega)
  replace x0_1 := cell_below hb x0_1 (by omega)
  replace x1_0 := cell_below hb x1_0 (by omega)
  replace x1_1 := cell_below hb x1_1 (by omega)
  replace f1_0 := fro_below hb f1_0 (by omega)
  replace f1_1 := fro_below hb f1_1 (by omega)
  have HB2 := Lib.hid (HB1.out.trans (hb.mono (by omega)))
  clear hb
  have z2 : ((w2.setCell ⟨w.heap.size + 1, 0, none⟩ (.slice none 0 0)).setCell ⟨w.heap.size + 1, 1, none⟩ (.int .i64 0)).cell? ⟨w.heap.size + 1, 0, none⟩ = some (.slice none 0 0) := (World.cell?_setCell_other _ _ _ _ (by simp)).trans (World.cell?_setCell_same _ _ _ x1_0)
  have z3 : ((w2.setCell ⟨w.heap.size + 1, 0, none⟩ (.slice none 0 0)).setCell ⟨w.heap.size + 1, 1, none⟩ (.int .i64 0)).cell? ⟨w.heap.size + 1, 1, none⟩ = some (.int .i64 0) := World.cell?_setCell_same _ _ _ ((World.cell?_setCell_other _ _ _ _ (by simp)).trans x1_1)
  go_wp2_with fail
  refine bodyPost_ret (v := .tuple #[.agg #[.slice none 0 0, .int .i64 0], .bool false]) (by simp [results, Try.results34, go_sem, z2, z3]) rfl ?_
  refine ⟨_, rfl, ?_, ?_⟩
  · exact OwnI.nil _ _ _
  · exact (HB2.out.setCell (by simp) _).setCell (by simp) _
set_option maxRecDepth 100000 in
set_option maxHeartbeats 1600000 in
theorem spec_yes (a : Option Addr) (rows : List (List Int)) (c : Nat) (a' : Option Addr) (zs : List Int) (c' : Nat) (e : Option Addr) (hs : List Int) (d : Nat) (w : World) (hr : grid.Reads w a rows) (hz : ints.Reads .i64 w a' zs) (hh : ints.Reads .i64 w e hs) (hn : rows.length ≤ 1048576) (hk : zs.length ≤ 1048576) (hm : ∀ r ∈ rows, r.length ≤ 1048576) (hnh : hs.length ≤ 1048576) (hp : hpB rows zs = true) (hf : heftsB rows hs = true) :
    Calls Try.prog 34 #[.agg #[.slice a rows.length c, .slice a' zs.length c'], .slice e hs.length d] w (RetPB (bestX rows zs hs).1 (bestX rows zs hs).2 true w) := by
  have Hhr := Lib.hid hr
  have Hhz := Lib.hid hz
  have Hhh := Lib.hid hh
  have Hhm := Lib.hid hm
  clear hr hz hh hm
  have HP := Lib.hid hp
  have HF := Lib.hid hf
  clear hp hf
  go_enter Try.func34, Try.ntmps34
  obtain ⟨wb1, hw1⟩ : ∃ wb1 : World, wb1 = w.alloc (.cells #[.slice a rows.length c, .slice a' zs.length c'] 38) := ⟨_, rfl⟩
  obtain ⟨wb2, hw2⟩ : ∃ wb2 : World, wb2 = wb1.alloc (.cells #[.slice none 0 0, .int .i64 0] 27) := ⟨_, rfl⟩
  have z1 : wb1.heap.size = w.heap.size + 1 := by rw [hw1]; simp
  have z2 : wb2.heap.size = w.heap.size + 2 := by rw [hw2]; simp; omega
  have x0_0 := (by rw [hw2]; exact cell_old _ (by rw [hw1]; exact cell_new _ _ _ rfl rfl : wb1.cell? ⟨w.heap.size, 0, none⟩ = some (.slice a rows.length c)) : wb2.cell? ⟨w.heap.size, 0, none⟩ = some (.slice a rows.length c))
  have x0_1 := (by rw [hw2]; exact cell_old _ (by rw [hw1]; exact cell_new _ _ _ rfl rfl : wb1.cell? ⟨w.heap.size, 1, none⟩ = some (.slice a' zs.length c')) : wb2.cell? ⟨w.heap.size, 1, none⟩ = some (.slice a' zs.length c'))
  have x1_0 := (by rw [hw2]; exact cell_new _ _ _ z1.symm rfl : wb2.cell? ⟨w.heap.size + 1, 0, none⟩ = some (.slice none 0 0))
  have x1_1 := (by rw [hw2]; exact cell_new _ _ _ z1.symm rfl : wb2.cell? ⟨w.heap.size + 1, 1, none⟩ = some (.int .i64 0))
  have HB0 := Lib.hid (show Below w.heap.size w wb2 by rw [hw2]; exact (show Below w.heap.size w wb1 by rw [hw1]; exact (Below.refl w.heap.size w).alloc (Nat.le_refl _) _).alloc (by omega) _)
  have s2 : w.heap.size + 2 ≤ wb2.heap.size := by omega
  have f1_0 := (by rw [hw2]; exact fro_new _ _ _ z1.symm : wb2.frozen? ⟨w.heap.size + 1, 0, none⟩ = false)
  have f1_1 := (by rw [hw2]; exact fro_new _ _ _ z1.symm : wb2.frozen? ⟨w.heap.size + 1, 1, none⟩ = false)
  have HZ2 := Lib.hid z2
  clear z1 z2
  go_wp2_with fail
  rw [← hw1, ← hw2]
  clear hw1 hw2
  refine (spec_some a rows c a' zs c' _ (Hhr.out.below HB0.out) (Hhz.out.below HB0.out) hn hk Hhm.out true HP).mono ?_
  rintro e w1 ⟨rfl, hb⟩
  have s1 : wb2.heap.size ≤ w1.heap.size := hb.size
  have n1_0 : w.heap.size < w1.heap.size := by omega
  have n1_1 : w.heap.size + 1 < w1.heap.size := by omega
  replace x0_0 := cell_below hb x0_0 (by omega)
  replace x0_1 := cell_below hb x0_1 (by omega)
  replace x1_0 := cell_below hb x1_0 (by omega)
  replace x1_1 := cell_below hb x1_1 (by omega)
  replace f1_0 := fro_below hb f1_0 (by omega)
  replace f1_1 := fro_below hb f1_1 (by omega)
  have HB1 := Lib.hid (HB0.out.trans (hb.mono (by omega)))
  clear hb
  go_wp2_with fail
  refine (spec_hefts a rows c a' zs c' e hs d _ (Hhh.out.below HB1.out) hnh hn true HF).mono ?_
  rintro e w2 ⟨rfl, hb⟩
  have s2 : w1.heap.size ≤ w2.heap.size := hb.size
  have n2_0 : w.heap.size < w2.heap.size := by omega
  have n2_1 : w.heap.size + 1 < w2.heap.size := by omega
  replace x0_0 := cell_below hb x0_0 (by omega)
  replace x0_1 := cell_below hb x0_1 (by omega)
  replace x1_0 := cell_below hb x1_0 (by omega)
  replace x1_1 := cell_below hb x1_1 (by omega)
  replace f1_0 := fro_below hb f1_0 (by omega)
  replace f1_1 := fro_below hb f1_1 (by omega)
  have HB2 := Lib.hid (HB1.out.trans (hb.mono (by omega)))
  clear hb
  go_wp2_with fail
  refine (spec_best a rows c a' zs c' e hs d _ (Hhr.out.below HB2.out) (Hhz.out.below HB2.out) (Hhh.out.below HB2.out) HP.out HF.out).mono ?_
  rintro e9 w9 ⟨v9, rfl, ho9, hb⟩
  obtain ⟨p9, c9, hv9, _, _, _⟩ := ho9.slice
  subst hv9
  have HO9 := Lib.hid (ho9)
  clear ho9
  have s3 : w2.heap.size ≤ w9.heap.size := hb.size
  have n3_0 : w.heap.size < w9.heap.size := by omega
  have n3_1 : w.heap.size + 1 < w9.heap.size := by omega
  replace x0_0 := cell_below hb x0_0 (by omega)
  replace x0_1 := cell_below hb x0_1 (by omega)
  replace x1_0 := cell_below hb x1_0 (by omega)
  replace x1_1 := cell_below hb x1_1 (by omega)
  replace f1_0 := fro_below hb f1_0 (by omega)
  replace f1_1 := fro_below hb f1_1 (by omega)
  have HB3 := Lib.hid (HB2.out.trans (hb.mono (by omega)))
  clear hb
  generalize (bestX rows zs hs).1 = wj at *
  generalize (bestX rows zs hs).2 = bj at *
  have z2 : ((w9.setCell ⟨w.heap.size + 1, 0, none⟩ (.slice p9 wj.length c9)).setCell ⟨w.heap.size + 1, 1, none⟩ (.int .i64 bj)).cell? ⟨w.heap.size + 1, 0, none⟩ = some (.slice p9 wj.length c9) := (World.cell?_setCell_other _ _ _ _ (by simp)).trans (World.cell?_setCell_same _ _ _ x1_0)
  have z3 : ((w9.setCell ⟨w.heap.size + 1, 0, none⟩ (.slice p9 wj.length c9)).setCell ⟨w.heap.size + 1, 1, none⟩ (.int .i64 bj)).cell? ⟨w.heap.size + 1, 1, none⟩ = some (.int .i64 bj) := World.cell?_setCell_same _ _ _ ((World.cell?_setCell_other _ _ _ _ (by simp)).trans x1_1)
  go_wp2_with fail
  refine bodyPost_ret (v := .tuple #[.agg #[.slice p9 wj.length c9, .int .i64 bj], .bool true]) (by simp [results, Try.results34, go_sem, z2, z3]) rfl ?_
  refine ⟨_, rfl, ?_, ?_⟩
  · simp only [size_set]
    exact ((HO9.out.set (by simp; omega) _).set (by simp; omega) _).mono (by omega) (Nat.le_refl _)
  · exact (HB3.out.setCell (by simp) _).setCell (by simp) _
set_option maxRecDepth 100000 in
set_option maxHeartbeats 1600000 in
theorem impl_best_no1 (a : Option Addr) (rows : List (List Int)) (c : Nat) (a' : Option Addr) (zs : List Int) (c' : Nat) (e : Option Addr) (hs : List Int) (d : Nat) (w : World) (hr : grid.Reads w a rows) (hz : ints.Reads .i64 w a' zs) (hh : ints.Reads .i64 w e hs) (hn : rows.length ≤ 1048576) (hk : zs.length ≤ 1048576) (hm : ∀ r ∈ rows, r.length ≤ 1048576) (hnh : hs.length ≤ 1048576) (hp : hpB rows zs = false) :
    Calls Try.prog 35 #[.agg #[.slice a rows.length c, .slice a' zs.length c'], .slice e hs.length d] w (RetPB [] 0 false w) := by
  have Hhr := Lib.hid hr
  have Hhz := Lib.hid hz
  have Hhh := Lib.hid hh
  have Hhm := Lib.hid hm
  clear hr hz hh hm
  have HP := Lib.hid hp
  clear hp
  go_enter Try.func35, Try.ntmps35
  obtain ⟨wb1, hw1⟩ : ∃ wb1 : World, wb1 = w.alloc (.cells #[.slice a rows.length c, .slice a' zs.length c'] 38) := ⟨_, rfl⟩
  obtain ⟨wb2, hw2⟩ : ∃ wb2 : World, wb2 = wb1.alloc (.cells #[.slice none 0 0, .int .i64 0] 27) := ⟨_, rfl⟩
  have z1 : wb1.heap.size = w.heap.size + 1 := by rw [hw1]; simp
  have z2 : wb2.heap.size = w.heap.size + 2 := by rw [hw2]; simp; omega
  have x0_0 := (by rw [hw2]; exact cell_old _ (by rw [hw1]; exact cell_new _ _ _ rfl rfl : wb1.cell? ⟨w.heap.size, 0, none⟩ = some (.slice a rows.length c)) : wb2.cell? ⟨w.heap.size, 0, none⟩ = some (.slice a rows.length c))
  have x0_1 := (by rw [hw2]; exact cell_old _ (by rw [hw1]; exact cell_new _ _ _ rfl rfl : wb1.cell? ⟨w.heap.size, 1, none⟩ = some (.slice a' zs.length c')) : wb2.cell? ⟨w.heap.size, 1, none⟩ = some (.slice a' zs.length c'))
  have x1_0 := (by rw [hw2]; exact cell_new _ _ _ z1.symm rfl : wb2.cell? ⟨w.heap.size + 1, 0, none⟩ = some (.slice none 0 0))
  have x1_1 := (by rw [hw2]; exact cell_new _ _ _ z1.symm rfl : wb2.cell? ⟨w.heap.size + 1, 1, none⟩ = some (.int .i64 0))
  have HB0 := Lib.hid (show Below w.heap.size w wb2 by rw [hw2]; exact (show Below w.heap.size w wb1 by rw [hw1]; exact (Below.refl w.heap.size w).alloc (Nat.le_refl _) _).alloc (by omega) _)
  have s2 : w.heap.size + 2 ≤ wb2.heap.size := by omega
  have f1_0 := (by rw [hw2]; exact fro_new _ _ _ z1.symm : wb2.frozen? ⟨w.heap.size + 1, 0, none⟩ = false)
  have f1_1 := (by rw [hw2]; exact fro_new _ _ _ z1.symm : wb2.frozen? ⟨w.heap.size + 1, 1, none⟩ = false)
  have HZ2 := Lib.hid z2
  clear z1 z2
  go_wp2_with fail
  rw [← hw1, ← hw2]
  clear hw1 hw2
  refine (impl_no a rows c a' zs c' _ (Hhr.out.below HB0.out) (Hhz.out.below HB0.out) hn hk Hhm.out HP.out).mono ?_
  rintro e w1 ⟨v9, rfl, ho9, hb⟩
  obtain ⟨p9, c9, hv9, _, _, _⟩ := ho9.slice
  subst hv9
  clear ho9
  have s1 : wb2.heap.size ≤ w1.heap.size := hb.size
  have n1_0 : w.heap.size < w1.heap.size := by omega
  have n1_1 : w.heap.size + 1 < w1.heap.size := by omega
  replace x0_0 := cell_below hb x0_0 (by omega)
  replace x0_1 := cell_below hb x0_1 (by omega)
  replace x1_0 := cell_below hb x1_0 (by omega)
  replace x1_1 := cell_below hb x1_1 (by omega)
  replace f1_0 := fro_below hb f1_0 (by omega)
  replace f1_1 := fro_below hb f1_1 (by omega)
  have HB1 := Lib.hid (HB0.out.trans (hb.mono (by omega)))
  clear hb
  have z2 : ((w1.setCell ⟨w.heap.size + 1, 0, none⟩ (.slice none 0 0)).setCell ⟨w.heap.size + 1, 1, none⟩ (.int .i64 0)).cell? ⟨w.heap.size + 1, 0, none⟩ = some (.slice none 0 0) := (World.cell?_setCell_other _ _ _ _ (by simp)).trans (World.cell?_setCell_same _ _ _ x1_0)
  have z3 : ((w1.setCell ⟨w.heap.size + 1, 0, none⟩ (.slice none 0 0)).setCell ⟨w.heap.size + 1, 1, none⟩ (.int .i64 0)).cell? ⟨w.heap.size + 1, 1, none⟩ = some (.int .i64 0) := World.cell?_setCell_same _ _ _ ((World.cell?_setCell_other _ _ _ _ (by simp)).trans x1_1)
  go_wp2_with fail
  refine bodyPost_ret (v := .tuple #[.agg #[.slice none 0 0, .int .i64 0], .bool false]) (by simp [results, Try.results35, go_sem, z2, z3]) rfl ?_
  refine ⟨_, rfl, ?_, ?_⟩
  · exact OwnI.nil _ _ _
  · exact (HB1.out.setCell (by simp) _).setCell (by simp) _
set_option maxRecDepth 100000 in
set_option maxHeartbeats 1600000 in
theorem impl_best_no2 (a : Option Addr) (rows : List (List Int)) (c : Nat) (a' : Option Addr) (zs : List Int) (c' : Nat) (e : Option Addr) (hs : List Int) (d : Nat) (w : World) (hr : grid.Reads w a rows) (hz : ints.Reads .i64 w a' zs) (hh : ints.Reads .i64 w e hs) (hn : rows.length ≤ 1048576) (hk : zs.length ≤ 1048576) (hm : ∀ r ∈ rows, r.length ≤ 1048576) (hnh : hs.length ≤ 1048576) (hp : hpB rows zs = true) (hf : heftsB rows hs = false) :
    Calls Try.prog 35 #[.agg #[.slice a rows.length c, .slice a' zs.length c'], .slice e hs.length d] w (RetPB [] 0 false w) := by
  have Hhr := Lib.hid hr
  have Hhz := Lib.hid hz
  have Hhh := Lib.hid hh
  have Hhm := Lib.hid hm
  clear hr hz hh hm
  have HP := Lib.hid hp
  have HF := Lib.hid hf
  clear hp hf
  go_enter Try.func35, Try.ntmps35
  obtain ⟨wb1, hw1⟩ : ∃ wb1 : World, wb1 = w.alloc (.cells #[.slice a rows.length c, .slice a' zs.length c'] 38) := ⟨_, rfl⟩
  obtain ⟨wb2, hw2⟩ : ∃ wb2 : World, wb2 = wb1.alloc (.cells #[.slice none 0 0, .int .i64 0] 27) := ⟨_, rfl⟩
  have z1 : wb1.heap.size = w.heap.size + 1 := by rw [hw1]; simp
  have z2 : wb2.heap.size = w.heap.size + 2 := by rw [hw2]; simp; omega
  have x0_0 := (by rw [hw2]; exact cell_old _ (by rw [hw1]; exact cell_new _ _ _ rfl rfl : wb1.cell? ⟨w.heap.size, 0, none⟩ = some (.slice a rows.length c)) : wb2.cell? ⟨w.heap.size, 0, none⟩ = some (.slice a rows.length c))
  have x0_1 := (by rw [hw2]; exact cell_old _ (by rw [hw1]; exact cell_new _ _ _ rfl rfl : wb1.cell? ⟨w.heap.size, 1, none⟩ = some (.slice a' zs.length c')) : wb2.cell? ⟨w.heap.size, 1, none⟩ = some (.slice a' zs.length c'))
  have x1_0 := (by rw [hw2]; exact cell_new _ _ _ z1.symm rfl : wb2.cell? ⟨w.heap.size + 1, 0, none⟩ = some (.slice none 0 0))
  have x1_1 := (by rw [hw2]; exact cell_new _ _ _ z1.symm rfl : wb2.cell? ⟨w.heap.size + 1, 1, none⟩ = some (.int .i64 0))
  have HB0 := Lib.hid (show Below w.heap.size w wb2 by rw [hw2]; exact (show Below w.heap.size w wb1 by rw [hw1]; exact (Below.refl w.heap.size w).alloc (Nat.le_refl _) _).alloc (by omega) _)
  have s2 : w.heap.size + 2 ≤ wb2.heap.size := by omega
  have f1_0 := (by rw [hw2]; exact fro_new _ _ _ z1.symm : wb2.frozen? ⟨w.heap.size + 1, 0, none⟩ = false)
  have f1_1 := (by rw [hw2]; exact fro_new _ _ _ z1.symm : wb2.frozen? ⟨w.heap.size + 1, 1, none⟩ = false)
  have HZ2 := Lib.hid z2
  clear z1 z2
  go_wp2_with fail
  rw [← hw1, ← hw2]
  clear hw1 hw2
  refine (impl_yes a rows c a' zs c' _ (Hhr.out.below HB0.out) (Hhz.out.below HB0.out) hn hk Hhm.out HP.out).mono ?_
  rintro e w1 ⟨v9, rfl, ho9, hb⟩
  obtain ⟨p9, c9, hv9, _, _, _⟩ := ho9.slice
  subst hv9
  clear ho9
  have s1 : wb2.heap.size ≤ w1.heap.size := hb.size
  have n1_0 : w.heap.size < w1.heap.size := by omega
  have n1_1 : w.heap.size + 1 < w1.heap.size := by omega
  replace x0_0 := cell_below hb x0_0 (by omega)
  replace x0_1 := cell_below hb x0_1 (by omega)
  replace x1_0 := cell_below hb x1_0 (by omega)
  replace x1_1 := cell_below hb x1_1 (by omega)
  replace f1_0 := fro_below hb f1_0 (by omega)
  replace f1_1 := fro_below hb f1_1 (by omega)
  have HB1 := Lib.hid (HB0.out.trans (hb.mono (by omega)))
  clear hb
  go_wp2_with fail
  refine (impl_hefts a rows c a' zs c' e hs d _ (Hhh.out.below HB1.out) hnh hn false HF).mono ?_
  rintro e w2 ⟨rfl, hb⟩
  have s2 : w1.heap.size ≤ w2.heap.size := hb.size
  have n2_0 : w.heap.size < w2.heap.size := by omega
  have n2_1 : w.heap.size + 1 < w2.heap.size := by omega
  replace x0_0 := cell_below hb x0_0 (by omega)
  replace x0_1 := cell_below hb x0_1 (by omega)
  replace x1_0 := cell_below hb x1_0 (by omega)
  replace x1_1 := cell_below hb x1_1 (by omega)
  replace f1_0 := fro_below hb f1_0 (by omega)
  replace f1_1 := fro_below hb f1_1 (by omega)
  have HB2 := Lib.hid (HB1.out.trans (hb.mono (by omega)))
  clear hb
  have z2 : ((w2.setCell ⟨w.heap.size + 1, 0, none⟩ (.slice none 0 0)).setCell ⟨w.heap.size + 1, 1, none⟩ (.int .i64 0)).cell? ⟨w.heap.size + 1, 0, none⟩ = some (.slice none 0 0) := (World.cell?_setCell_other _ _ _ _ (by simp)).trans (World.cell?_setCell_same _ _ _ x1_0)
  have z3 : ((w2.setCell ⟨w.heap.size + 1, 0, none⟩ (.slice none 0 0)).setCell ⟨w.heap.size + 1, 1, none⟩ (.int .i64 0)).cell? ⟨w.heap.size + 1, 1, none⟩ = some (.int .i64 0) := World.cell?_setCell_same _ _ _ ((World.cell?_setCell_other _ _ _ _ (by simp)).trans x1_1)
  go_wp2_with fail
  refine bodyPost_ret (v := .tuple #[.agg #[.slice none 0 0, .int .i64 0], .bool false]) (by simp [results, Try.results35, go_sem, z2, z3]) rfl ?_
  refine ⟨_, rfl, ?_, ?_⟩
  · exact OwnI.nil _ _ _
  · exact (HB2.out.setCell (by simp) _).setCell (by simp) _
set_option maxRecDepth 100000 in
set_option maxHeartbeats 1600000 in
theorem impl_best_yes (a : Option Addr) (rows : List (List Int)) (c : Nat) (a' : Option Addr) (zs : List Int) (c' : Nat) (e : Option Addr) (hs : List Int) (d : Nat) (w : World) (hr : grid.Reads w a rows) (hz : ints.Reads .i64 w a' zs) (hh : ints.Reads .i64 w e hs) (hn : rows.length ≤ 1048576) (hk : zs.length ≤ 1048576) (hm : ∀ r ∈ rows, r.length ≤ 1048576) (hnh : hs.length ≤ 1048576) (hp : hpB rows zs = true) (hf : heftsB rows hs = true) :
    Calls Try.prog 35 #[.agg #[.slice a rows.length c, .slice a' zs.length c'], .slice e hs.length d] w (RetPB (bestX rows zs hs).1 (bestX rows zs hs).2 true w) := by
  have hb9 := stump_at hp
  have hpos := stump_pos hp
  have hsz9 := stump_size hp
  have h16 := (row4 hp).2
  have HST := Lib.hid (fun (wa : World) (hB : Below w.heap.size w wa) => impl_yes a rows c a' zs c' wa (hr.below hB) (hz.below hB) hn hk hm hp)
  have HHE := Lib.hid (fun (wa : World) (hB : Below w.heap.size w wa) => impl_hefts a rows c a' zs c' e hs d wa (hh.below hB) hnh hn true (Lib.hid hf))
  have HBX := Lib.hid (show bestX rows zs hs = (stumpL rows).getD (bJ (fW rows zs hs) (stumpL rows).length) ([], 0) from rfl)
  have HWM := Lib.hid (show ∀ (k : Nat), k < (stumpL rows).length → ∀ (p : Option Addr) (q : Nat) (wa : World), Below w.heap.size w wa → ints.Reads .i64 wa p ((stumpL rows).getD k ([], 0)).1 → Calls Try.prog 79 #[.agg #[.slice a rows.length c, .slice a' zs.length c'], .slice e hs.length d, .agg #[.slice p ((stumpL rows).getD k ([], 0)).1.length q, .int .i64 ((stumpL rows).getD k ([], 0)).2]] wa (RetN (fW rows zs hs k) wa) from fun k hk p q wa hB hp9 => impl_wm a rows c a' zs c' e hs d p ((stumpL rows).getD k ([], 0)).1 q ((stumpL rows).getD k ([], 0)).2 wa (hr.below hB) (hz.below hB) (hh.below hB) hp9 (by omega) (hb9 k hk) hf)
  have HFB := Lib.hid (show ∀ k, -9000000000000000000 ≤ fW rows zs hs k ∧ fW rows zs hs k ≤ 9000000000000000000 from fun k => by
    have h1 := wm_bd (rows := rows) (zs := zs) (ws := ((stumpL rows).getD k ([], 0)).1) (b := ((stumpL rows).getD k ([], 0)).2) ((heftsB_iff _ _).1 hf).1 rows.length (by rw [((heftsB_iff _ _).1 hf).2]; exact Nat.le_refl _)
    unfold fW
    omega)
  clear hr hz hh hp hf hb9 hm
  go_enter Try.func35, Try.ntmps35
  obtain ⟨wb1, hw1⟩ : ∃ wb1 : World, wb1 = w.alloc (.cells #[.slice a rows.length c, .slice a' zs.length c'] 38) := ⟨_, rfl⟩
  obtain ⟨wb2, hw2⟩ : ∃ wb2 : World, wb2 = wb1.alloc (.cells #[.slice none 0 0, .int .i64 0] 27) := ⟨_, rfl⟩
  have z1 : wb1.heap.size = w.heap.size + 1 := by rw [hw1]; simp
  have z2 : wb2.heap.size = w.heap.size + 2 := by rw [hw2]; simp; omega
  have x0_0 := (by rw [hw2]; exact cell_old _ (by rw [hw1]; exact cell_new _ _ _ rfl rfl : wb1.cell? ⟨w.heap.size, 0, none⟩ = some (.slice a rows.length c)) : wb2.cell? ⟨w.heap.size, 0, none⟩ = some (.slice a rows.length c))
  have x0_1 := (by rw [hw2]; exact cell_old _ (by rw [hw1]; exact cell_new _ _ _ rfl rfl : wb1.cell? ⟨w.heap.size, 1, none⟩ = some (.slice a' zs.length c')) : wb2.cell? ⟨w.heap.size, 1, none⟩ = some (.slice a' zs.length c'))
  have x1_0 := (by rw [hw2]; exact cell_new _ _ _ z1.symm rfl : wb2.cell? ⟨w.heap.size + 1, 0, none⟩ = some (.slice none 0 0))
  have x1_1 := (by rw [hw2]; exact cell_new _ _ _ z1.symm rfl : wb2.cell? ⟨w.heap.size + 1, 1, none⟩ = some (.int .i64 0))
  have HB0 := Lib.hid (show Below w.heap.size w wb2 by rw [hw2]; exact (show Below w.heap.size w wb1 by rw [hw1]; exact (Below.refl w.heap.size w).alloc (Nat.le_refl _) _).alloc (by omega) _)
  have s2 : w.heap.size + 2 ≤ wb2.heap.size := by omega
  have f1_0 := (by rw [hw2]; exact fro_new _ _ _ z1.symm : wb2.frozen? ⟨w.heap.size + 1, 0, none⟩ = false)
  have f1_1 := (by rw [hw2]; exact fro_new _ _ _ z1.symm : wb2.frozen? ⟨w.heap.size + 1, 1, none⟩ = false)
  have HZ2 := Lib.hid z2
  clear z1 z2
  go_wp2_with fail
  rw [← hw1, ← hw2]
  clear hw1 hw2
  refine (HST.out _ HB0.out).mono ?_
  rintro e9 w3 ⟨v9, rfl, ho, hb⟩
  obtain ⟨cs, hK⟩ := ho
  generalize hps : stumpL rows = ps at *
  generalize hff : fW rows zs hs = f at *
  have HBX2 := Lib.hid (show bestX rows zs hs = ps.getD (bJ f ps.length) ([], 0) by rw [HBX.out])
  clear hps hff HST HBX
  replace x0_0 := cell_below hb x0_0 (by omega)
  replace x0_1 := cell_below hb x0_1 (by omega)
  replace x1_0 := cell_below hb x1_0 (by omega)
  replace x1_1 := cell_below hb x1_1 (by omega)
  replace f1_0 := fro_below hb f1_0 (by omega)
  replace f1_1 := fro_below hb f1_1 (by omega)
  have s3 := hb.size
  have HB3 := Lib.hid (HB0.out.trans (hb.mono (by omega)))
  obtain ⟨pa, pc, hv9⟩ := hK.slice
  subst hv9
  have HK := Lib.hid hK
  clear hb hK
  go_wp2_with fail
  refine (HHE.out _ HB3.out).mono ?_
  rintro e9 w4 ⟨rfl, hb⟩
  replace x0_0 := cell_below hb x0_0 (by omega)
  replace x0_1 := cell_below hb x0_1 (by omega)
  replace x1_0 := cell_below hb x1_0 (by omega)
  replace x1_1 := cell_below hb x1_1 (by omega)
  replace f1_0 := fro_below hb f1_0 (by omega)
  replace f1_1 := fro_below hb f1_1 (by omega)
  have s4 := hb.size
  have HB4 := Lib.hid (HB3.out.trans (hb.mono (by omega)))
  have hK := HK.out.below hb
  clear hb HHE HK
  obtain ⟨gs, hgs⟩ : ∃ gs, pa = some ⟨gs, 0, none⟩ := by
    rcases hK.1.2 with ⟨_, h9⟩ | ⟨g, cap, cur, e9, _⟩
    · omega
    · cases e9; exact ⟨g, rfl⟩
  subst hgs
  have hgl := (hK.1.lt gs rfl)
  have HAT := Lib.hid (show ∀ k, k < ps.length → (∃ p q, cs.getD k undef = .slice p (ps.getD k ([], 0)).1.length q) ∧ w4.cell? ⟨gs, k * 2, none⟩ = some (cs.getD k undef) ∧ w4.cell? ⟨gs, k * 2 + 1, none⟩ = some (.int .i64 (ps.getD k ([], 0)).2) ∧ OwnI wb2.heap.size w4.heap.size w4 (cs.getD k undef) (ps.getD k ([], 0)).1 from fun k hk => by
    have h1 := hK.2.2.2.1 k (by rw [List.length_map]; exact hk)
    rw [wsJ_getD] at h1
    obtain ⟨p, q, e9, _⟩ := h1.slice
    have h2 := flatJ_at cs ps hK.len k hk
    exact ⟨⟨p, q, e9⟩, by rw [hK.1.cellAt (k * 2) (by omega)]; exact h2.1, by rw [hK.1.cellAt (k * 2 + 1) (by omega)]; exact h2.2, h1.mono (Nat.le_refl _) s4⟩)
  clear hK
  have HXA := Lib.hid (below_alloc w4 (.cells #[.slice none 0 0, .int .i64 0] 27))
  have y0 : (w4.alloc (.cells #[.slice none 0 0, .int .i64 0] 27)).cell? ⟨w4.heap.size, 0, none⟩ = some (.slice none 0 0) := cell_new _ _ _ rfl rfl
  have y1 : (w4.alloc (.cells #[.slice none 0 0, .int .i64 0] 27)).cell? ⟨w4.heap.size, 1, none⟩ = some (.int .i64 0) := cell_new _ _ _ rfl rfl
  have g0 : (w4.alloc (.cells #[.slice none 0 0, .int .i64 0] 27)).frozen? ⟨w4.heap.size, 0, none⟩ = false := fro_new _ _ _ rfl
  have g1 : (w4.alloc (.cells #[.slice none 0 0, .int .i64 0] 27)).frozen? ⟨w4.heap.size, 1, none⟩ = false := fro_new _ _ _ rfl
  have hsA := size_alloc' w4 (.cells #[.slice none 0 0, .int .i64 0] 27)
  have HY := Lib.hid (And.intro y0 (And.intro y1 (And.intro g0 g1)))
  have hps999 := hsz9.1
  clear y0 y1 g0 g1
  go_wp2_with fail
  obtain ⟨Bb, hBb⟩ : ∃ Bb : Nat, Bb = w4.heap.size := ⟨_, rfl⟩
  rw [← hBb] at HY hsA ⊢
  have HBb := Lib.hid hBb
  clear hBb
  generalize hwA : w4.alloc (.cells #[.slice none 0 0, .int .i64 0] 27) = wA at *
  clear hwA
  obtain ⟨y0, y1, g0, g1⟩ := HY.out
  clear HY
  go_loopw [9, 30] (fun l i wr => ∃ k : Nat, k ≤ ps.length ∧ i = .int .i64 k ∧ l = .int .i64 (if k = 0 then 9223372036854775807 else f (bJ f k)) ∧ wr.cell? ⟨Bb, 0, none⟩ = some (if k = 0 then .slice none 0 0 else cs.getD (bJ f k) undef) ∧ wr.cell? ⟨Bb, 1, none⟩ = some (.int .i64 (if k = 0 then 0 else (ps.getD (bJ f k) ([], 0)).2)) ∧ wr.frozen? ⟨Bb, 0, none⟩ = false ∧ wr.frozen? ⟨Bb, 1, none⟩ = false ∧ Below Bb w4 wr ∧ wA.heap.size ≤ wr.heap.size) (fun _ i _ => ps.length - (intOf i).toNat)
  case atStart => exact ⟨0, Nat.zero_le _, rfl, rfl, y0, y1, g0, g1, by rw [HBb.out]; exact HXA.out, Nat.le_refl _⟩
  case round =>
    obtain ⟨k, hk, rfl, rfl, y0, y1, g0, g1, hbel, hsA2⟩ := hrel
    have hB3 : Below w4.heap.size w4 wr := by rw [← HBb.out]; exact hbel
    have hs39 := hB3.size
    by_cases hlt : k < ps.length
    · obtain ⟨⟨pk, qk, ek⟩, hck, hdk, hok⟩ := HAT.out k hlt
      have hok2 := hok.below hB3
      rw [ek] at hck hok2
      replace x0_0 := cell_below hB3 x0_0 (by omega)
      replace x0_1 := cell_below hB3 x0_1 (by omega)
      replace hck := cell_below hB3 hck (by omega)
      replace hdk := cell_below hB3 hdk (by omega)
      have HALL := Lib.hid (HB4.out.trans (hB3.mono (by have := HB4.out.size; omega)))
      have HCK := Lib.hid (fun (wa : World) (hB : Below wr.heap.size wr wa) => HWM.out k hlt pk qk wa (HALL.out.trans (hB.mono HALL.out.size)) (hok2.reads.below hB))
      have HRB := Lib.hid hbel
      have HEK := Lib.hid ek
      have hfb := HFB.out k
      have HHIT := Lib.hid (show f k < (if k = 0 then 9223372036854775807 else f (bJ f k)) → bJ f (k + 1) = k from fun h => by
        by_cases e0 : k = 0
        · subst e0; exact bJ_one f
        · rw [if_neg e0] at h; exact bJ_hit h)
      have HMIS := Lib.hid (show ¬ f k < (if k = 0 then 9223372036854775807 else f (bJ f k)) → k ≠ 0 ∧ bJ f (k + 1) = bJ f k from fun h => by
        by_cases e0 : k = 0
        · rw [if_pos e0] at h; omega
        · rw [if_neg e0] at h; exact ⟨e0, bJ_miss h⟩)
      have i1 : (0 : Int) ≤ (k : Int) := by omega
      have i2 : (k : Int) < (ps.length : Int) := by omega
      obtain ⟨bk, hbk⟩ : ∃ bk, (ps.getD k ([], 0)).2 = bk := ⟨_, rfl⟩
      obtain ⟨wk, hwk⟩ : ∃ wk, (ps.getD k ([], 0)).1 = wk := ⟨_, rfl⟩
      rw [hbk] at hdk HCK
      rw [hwk] at hck HCK
      have HNXT := Lib.hid (And.intro hbk hwk)
      have HCUR := Lib.hid (And.intro y0 y1)
      have HLE := Lib.hid (show ∀ X : Int, X = (if k = 0 then 9223372036854775807 else f (bJ f k)) → k ≠ 0 → X = f (bJ f k) from fun X hX h0 => by rw [hX, if_neg h0])
      have HFK := Lib.hid (show ∀ X : Int, X = f k → bJ f (k + 1) = k → X = f (bJ f (k + 1)) from fun X hX h => by rw [hX, h])
      have hwbl := below_alloc wr (.cells #[.slice pk wk.length qk, .int .i64 bk] 27)
      have HWBL := Lib.hid hwbl
      have X0 := cell_below hwbl x0_0 (by omega)
      have X1 := cell_below hwbl x0_1 (by omega)
      have Y0 := cell_below hwbl y0 (by omega)
      have Y1 := cell_below hwbl y1 (by omega)
      have G0 := fro_below hwbl g0 (by omega)
      have G1 := fro_below hwbl g1 (by omega)
      have p0 : (wr.alloc (.cells #[.slice pk wk.length qk, .int .i64 bk] 27)).cell? ⟨wr.heap.size, 0, none⟩ = some (.slice pk wk.length qk) := cell_new _ _ _ rfl rfl
      have p1 : (wr.alloc (.cells #[.slice pk wk.length qk, .int .i64 bk] 27)).cell? ⟨wr.heap.size, 1, none⟩ = some (.int .i64 bk) := cell_new _ _ _ rfl rfl
      have hsw := size_alloc' wr (.cells #[.slice pk wk.length qk, .int .i64 bk] 27)
      have HPP := Lib.hid (And.intro p0 (And.intro p1 (And.intro Y0 (And.intro Y1 (And.intro G0 G1)))))
      clear hbel hB3 hok hok2 ek hbk hwk y0 y1 hwbl Y0 Y1 G0 G1 p0 p1 g0 g1
      generalize hll : (if k = 0 then (9223372036854775807 : Int) else f (bJ f k)) = ll at *
      have HLL := Lib.hid hll
      generalize hfk9 : f k = fk at *
      have HFK9 := Lib.hid hfk9
      clear hll hfk9
      by_cases hcmp : fk < ll
      · have gg : decide (fk < ll) = true := by simpa using hcmp
        have HBJ := Lib.hid (HHIT.out hcmp)
        clear hcmp HHIT HMIS
        go_wp2_with fail
        refine (HCK.out _ HWBL.out).mono ?_
        rintro e9 w5 ⟨rfl, hb⟩
        obtain ⟨p0, p1, Y0, Y1, G0, G1⟩ := HPP.out
        replace p0 := cell_below hb p0 (by omega)
        replace p1 := cell_below hb p1 (by omega)
        replace Y0 := cell_below hb Y0 (by omega)
        replace Y1 := cell_below hb Y1 (by omega)
        replace G0 := fro_below hb G0 (by omega)
        replace G1 := fro_below hb G1 (by omega)
        have HF2 := Lib.hid (HRB.out.trans ((HWBL.out.trans (hb.mono (by omega))).mono (by omega)))
        have hs5 := hb.size
        have NY0 := Lib.hid Y0
        have NY1 := Lib.hid Y1
        have NG0 := Lib.hid G0
        have NG1 := Lib.hid G1
        clear hb
        go_wp2_with fail
        go_roundw
        case rel =>
          refine ⟨k + 1, by omega, by go_num, ?_, ?_, ?_, ?_, ?_, ?_, ?_⟩
          · rw [if_neg (by omega), HBJ.out, HFK9.out]
          · rw [if_neg (by omega), HBJ.out, HEK.out, HNXT.out.2]
            exact (World.cell?_setCell_other _ _ _ _ (by simp)).trans (World.cell?_setCell_same _ _ _ NY0.out)
          · rw [if_neg (by omega), HBJ.out, HNXT.out.1]
            exact World.cell?_setCell_same _ _ _ ((World.cell?_setCell_other _ _ _ _ (by simp)).trans NY1.out)
          · simp only [World.frozen?_setCell]; exact NG0.out
          · simp only [World.frozen?_setCell]; exact NG1.out
          · exact (HF2.out.setCell (Nat.le_refl _) _).setCell (Nat.le_refl _) _
          · rw [size_set, size_set]; omega
        case measure => simp [intOf]; omega
      · have gg : decide (fk < ll) = false := by simpa using hcmp
        have HBJ := Lib.hid (HMIS.out hcmp)
        clear hcmp HHIT HMIS
        go_wp2_with fail
        refine (HCK.out _ HWBL.out).mono ?_
        rintro e9 w5 ⟨rfl, hb⟩
        obtain ⟨p0, p1, Y0, Y1, G0, G1⟩ := HPP.out
        have HY0 := Lib.hid (cell_below hb Y0 (by omega))
        have HY1 := Lib.hid (cell_below hb Y1 (by omega))
        have HG0 := Lib.hid (fro_below hb G0 (by omega))
        have HG1 := Lib.hid (fro_below hb G1 (by omega))
        have HF2 := Lib.hid (HRB.out.trans ((HWBL.out.trans (hb.mono (by omega))).mono (by omega)))
        have hs5 := hb.size
        clear hb p0 p1 Y0 Y1 G0 G1
        go_wp2_with fail
        go_roundw
        case rel =>
          refine ⟨k + 1, by omega, by go_num, ?_, ?_, ?_, HG0.out, HG1.out, HF2.out, by omega⟩
          · rw [if_neg (by omega), HBJ.out.2, HLE.out ll rfl HBJ.out.1]
          · have h7 := HY0.out
            rw [if_neg HBJ.out.1] at h7
            rw [if_neg (by omega), HBJ.out.2]; exact h7
          · have h7 := HY1.out
            rw [if_neg HBJ.out.1] at h7
            rw [if_neg (by omega), HBJ.out.2]; exact h7
        case measure => simp [intOf]; omega
    · obtain rfl : k = ps.length := by omega
      rw [if_neg (by omega)] at y0 y1
      have hjl := bJ_lt f ps.length hpos
      obtain ⟨⟨pj, qj, ej⟩, _, _, hoj⟩ := HAT.out (bJ f ps.length) hjl
      have hoj2 := hoj.below hB3
      rw [ej] at y0 hoj2
      replace x1_0 := cell_below hB3 x1_0 (by omega)
      replace x1_1 := cell_below hB3 x1_1 (by omega)
      replace f1_0 := fro_below hB3 f1_0 (by omega)
      replace f1_1 := fro_below hB3 f1_1 (by omega)
      have HALL := Lib.hid (HB4.out.trans (hB3.mono (by have := HB4.out.size; omega)))
      have HOJ := Lib.hid hoj2
      clear hbel hB3 hoj hoj2 g0 g1
      generalize bJ f ps.length = jj at *
      have HFB2 := Lib.hid (show bestX rows zs hs = ((ps.getD jj ([], 0)).1, (ps.getD jj ([], 0)).2) from HBX2.out)
      generalize (ps.getD jj ([], 0)).2 = bj at *
      generalize (ps.getD jj ([], 0)).1 = wj at *
      have z2 : ((wr.setCell ⟨w.heap.size + 1, 0, none⟩ (.slice pj wj.length qj)).setCell ⟨w.heap.size + 1, 1, none⟩ (.int .i64 bj)).cell? ⟨w.heap.size + 1, 0, none⟩ = some (.slice pj wj.length qj) := (World.cell?_setCell_other _ _ _ _ (by simp)).trans (World.cell?_setCell_same _ _ _ x1_0)
      have z3 : ((wr.setCell ⟨w.heap.size + 1, 0, none⟩ (.slice pj wj.length qj)).setCell ⟨w.heap.size + 1, 1, none⟩ (.int .i64 bj)).cell? ⟨w.heap.size + 1, 1, none⟩ = some (.int .i64 bj) := World.cell?_setCell_same _ _ _ ((World.cell?_setCell_other _ _ _ _ (by simp)).trans x1_1)
      go_wp2_with fail
      refine bodyPost_ret (v := .tuple #[.agg #[.slice pj wj.length qj, .int .i64 bj], .bool true]) (by simp [results, Try.results35, go_sem, z2, z3]) rfl ?_
      rw [HFB2.out]
      refine ⟨_, rfl, ?_, ?_⟩
      · simp only [size_set]
        exact ((HOJ.out.set (by simp; omega) _).set (by simp; omega) _).mono (by omega) (by omega)
      · exact (HALL.out.setCell (by simp) _).setCell (by simp) _
end Go.Proofs.Ythohnnobahcdpaa.besti
