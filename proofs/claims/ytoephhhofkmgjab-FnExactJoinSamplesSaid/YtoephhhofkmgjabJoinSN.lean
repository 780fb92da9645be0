/- The walks of the model's and the program's JoinSamples where an argument is no sample. -/
import Derived.Test.YtoephhhofkmgjabSamplesT
import Derived.Test.YtoephhhofkmgjabSamplesV
import Derived.Test.YtoephhhofkmgjabSampleFns
import Derived.Test.YtoephhhofkmgjabOwn1
namespace Go.Proofs.Ytoephhhofkmgjab.joinsn
open Go.RowKit own pp nums samplesv samplest samplefns
set_option linter.unusedVariables false
set_option linter.unusedSimpArgs false

set_option maxRecDepth 100000 in
set_option maxHeartbeats 4000000 in
theorem impl_no1 (a : Option Addr) (rows : List (List Int)) (c : Nat) (a' : Option Addr) (zs : List Int) (c' : Nat) (b : Option Addr) (rows1 : List (List Int)) (d : Nat) (b' : Option Addr) (zs1 : List Int) (d' : Nat) (w : World) (hr : grid.Reads w a rows) (hz : ints.Reads .i64 w a' zs) (hr1 : grid.Reads w b rows1) (hz1 : ints.Reads .i64 w b' zs1) (hn : rows.length ≤ 1048576) (hk : zs.length ≤ 1048576) (hm : ∀ r ∈ rows, r.length ≤ 1048576) (hn1 : rows1.length ≤ 1048576) (hk1 : zs1.length ≤ 1048576) (hm1 : ∀ r ∈ rows1, r.length ≤ 1048576) (h1 : Hid (sampleB rows zs = false)) :
    Calls Try.prog 33 #[.agg #[.slice a rows.length c, .slice a' zs.length c'], .agg #[.slice b rows1.length d, .slice b' zs1.length d']] w (RetSB [] [] false w) := by
  have HMM := Lib.hid hm
  have HM1 := Lib.hid hm1
  clear hm hm1
  have Hhr := Lib.hid hr
  have Hhz := Lib.hid hz
  have Hhr1 := Lib.hid hr1
  have Hhz1 := Lib.hid hz1
  clear hr hz hr1 hz1
  go_enter Try.func33, Try.ntmps33
  go_wp2_with fail
  have x0_0 : (w.alloc (.cells #[.slice a rows.length c, .slice a' zs.length c'] 56)).cell? ⟨w.heap.size, 0, none⟩ = some (.slice a rows.length c) := cell_new _ _ _ (by simp) rfl
  have x0_1 : (w.alloc (.cells #[.slice a rows.length c, .slice a' zs.length c'] 56)).cell? ⟨w.heap.size, 1, none⟩ = some (.slice a' zs.length c') := cell_new _ _ _ (by simp) rfl
  have HB0 := Lib.hid (below_alloc w (.cells #[.slice a rows.length c, .slice a' zs.length c'] 56))
  replace x0_0 := cell_old (.cells #[.slice b rows1.length d, .slice b' zs1.length d'] 56) x0_0
  replace x0_1 := cell_old (.cells #[.slice b rows1.length d, .slice b' zs1.length d'] 56) x0_1
  have x1_0 : ((w.alloc (.cells #[.slice a rows.length c, .slice a' zs.length c'] 56)).alloc (.cells #[.slice b rows1.length d, .slice b' zs1.length d'] 56)).cell? ⟨w.heap.size + 1, 0, none⟩ = some (.slice b rows1.length d) := cell_new _ _ _ (by simp) rfl
  have x1_1 : ((w.alloc (.cells #[.slice a rows.length c, .slice a' zs.length c'] 56)).alloc (.cells #[.slice b rows1.length d, .slice b' zs1.length d'] 56)).cell? ⟨w.heap.size + 1, 1, none⟩ = some (.slice b' zs1.length d') := cell_new _ _ _ (by simp) rfl
  replace HB0 := Lib.hid (HB0.out.alloc (by simp) (.cells #[.slice b rows1.length d, .slice b' zs1.length d'] 56))
  replace x0_0 := cell_old (.cells #[.slice none 0 0, .slice none 0 0] 56) x0_0
  replace x0_1 := cell_old (.cells #[.slice none 0 0, .slice none 0 0] 56) x0_1
  replace x1_0 := cell_old (.cells #[.slice none 0 0, .slice none 0 0] 56) x1_0
  replace x1_1 := cell_old (.cells #[.slice none 0 0, .slice none 0 0] 56) x1_1
  have x2_0 : (((w.alloc (.cells #[.slice a rows.length c, .slice a' zs.length c'] 56)).alloc (.cells #[.slice b rows1.length d, .slice b' zs1.length d'] 56)).alloc (.cells #[.slice none 0 0, .slice none 0 0] 56)).cell? ⟨w.heap.size + 1 + 1, 0, none⟩ = some (.slice none 0 0) := cell_new _ _ _ (by simp) rfl
  have x2_1 : (((w.alloc (.cells #[.slice a rows.length c, .slice a' zs.length c'] 56)).alloc (.cells #[.slice b rows1.length d, .slice b' zs1.length d'] 56)).alloc (.cells #[.slice none 0 0, .slice none 0 0] 56)).cell? ⟨w.heap.size + 1 + 1, 1, none⟩ = some (.slice none 0 0) := cell_new _ _ _ (by simp) rfl
  have f2_0 : (((w.alloc (.cells #[.slice a rows.length c, .slice a' zs.length c'] 56)).alloc (.cells #[.slice b rows1.length d, .slice b' zs1.length d'] 56)).alloc (.cells #[.slice none 0 0, .slice none 0 0] 56)).frozen? ⟨w.heap.size + 1 + 1, 0, none⟩ = false := fro_new _ _ _ (by simp)
  have f2_1 : (((w.alloc (.cells #[.slice a rows.length c, .slice a' zs.length c'] 56)).alloc (.cells #[.slice b rows1.length d, .slice b' zs1.length d'] 56)).alloc (.cells #[.slice none 0 0, .slice none 0 0] 56)).frozen? ⟨w.heap.size + 1 + 1, 1, none⟩ = false := fro_new _ _ _ (by simp)
  replace HB0 := Lib.hid (HB0.out.alloc (by simp; omega) (.cells #[.slice none 0 0, .slice none 0 0] 56))
  have s0 : w.heap.size + 3 ≤ (((w.alloc (.cells #[.slice a rows.length c, .slice a' zs.length c'] 56)).alloc (.cells #[.slice b rows1.length d, .slice b' zs1.length d'] 56)).alloc (.cells #[.slice none 0 0, .slice none 0 0] 56)).heap.size := by simp
  generalize hw : (((w.alloc (.cells #[.slice a rows.length c, .slice a' zs.length c'] 56)).alloc (.cells #[.slice b rows1.length d, .slice b' zs1.length d'] 56)).alloc (.cells #[.slice none 0 0, .slice none 0 0] 56)) = w0 at *
  clear hw
  have n0_0 : w.heap.size < w0.heap.size := by omega
  have n0_1 : w.heap.size + 1 < w0.heap.size := by omega
  have n0_2 : w.heap.size + 1 + 1 < w0.heap.size := by omega
  refine (impl_sample a rows c a' zs c' _ (Hhr.out.below HB0.out) (Hhz.out.below HB0.out) hn hk HMM.out false h1).mono ?_
  rintro e w1 ⟨rfl, hb⟩
  have s1 : w0.heap.size ≤ w1.heap.size := hb.size
  have n1_0 : w.heap.size < w1.heap.size := by omega
  have n1_1 : w.heap.size + 1 < w1.heap.size := by omega
  have n1_2 : w.heap.size + 1 + 1 < w1.heap.size := by omega
  replace x0_0 := cell_below hb x0_0 (by omega)
  replace x0_1 := cell_below hb x0_1 (by omega)
  replace x1_0 := cell_below hb x1_0 (by omega)
  replace x1_1 := cell_below hb x1_1 (by omega)
  replace x2_0 := cell_below hb x2_0 (by omega)
  replace x2_1 := cell_below hb x2_1 (by omega)
  replace f2_0 := fro_below hb f2_0 (by omega)
  replace f2_1 := fro_below hb f2_1 (by omega)
  have HB1 := Lib.hid (HB0.out.trans (hb.mono (by omega)))
  clear hb
  go_wp2_with fail
  refine bodyPost_ret (v := .tuple #[.agg #[.slice none 0 0, .slice none 0 0], .bool false]) (by simp [results, Try.results33, go_sem, x2_0, x2_1]) rfl ⟨_, _, rfl, OwnS.of (OwnG.nil w.heap.size 0 _) (OwnI.nil w.heap.size 0 _) (.inl (Nat.zero_le _)) (Nat.le_refl _) (Nat.le_refl _) (Nat.zero_le _) (Nat.zero_le _), ?_⟩
  exact (HB1.out.setCell (by simp; omega) _).setCell (by simp; omega) _
set_option maxRecDepth 100000 in
set_option maxHeartbeats 4000000 in
theorem impl_no2 (a : Option Addr) (rows : List (List Int)) (c : Nat) (a' : Option Addr) (zs : List Int) (c' : Nat) (b : Option Addr) (rows1 : List (List Int)) (d : Nat) (b' : Option Addr) (zs1 : List Int) (d' : Nat) (w : World) (hr : grid.Reads w a rows) (hz : ints.Reads .i64 w a' zs) (hr1 : grid.Reads w b rows1) (hz1 : ints.Reads .i64 w b' zs1) (hn : rows.length ≤ 1048576) (hk : zs.length ≤ 1048576) (hm : ∀ r ∈ rows, r.length ≤ 1048576) (hn1 : rows1.length ≤ 1048576) (hk1 : zs1.length ≤ 1048576) (hm1 : ∀ r ∈ rows1, r.length ≤ 1048576) (h1 : Hid (sampleB rows zs = true)) (h2 : Hid (sampleB rows1 zs1 = false)) :
    Calls Try.prog 33 #[.agg #[.slice a rows.length c, .slice a' zs.length c'], .agg #[.slice b rows1.length d, .slice b' zs1.length d']] w (RetSB [] [] false w) := by
  have HMM := Lib.hid hm
  have HM1 := Lib.hid hm1
  clear hm hm1
  have Hhr := Lib.hid hr
  have Hhz := Lib.hid hz
  have Hhr1 := Lib.hid hr1
  have Hhz1 := Lib.hid hz1
  clear hr hz hr1 hz1
  go_enter Try.func33, Try.ntmps33
  go_wp2_with fail
  have x0_0 : (w.alloc (.cells #[.slice a rows.length c, .slice a' zs.length c'] 56)).cell? ⟨w.heap.size, 0, none⟩ = some (.slice a rows.length c) := cell_new _ _ _ (by simp) rfl
  have x0_1 : (w.alloc (.cells #[.slice a rows.length c, .slice a' zs.length c'] 56)).cell? ⟨w.heap.size, 1, none⟩ = some (.slice a' zs.length c') := cell_new _ _ _ (by simp) rfl
  have HB0 := Lib.hid (below_alloc w (.cells #[.slice a rows.length c, .slice a' zs.length c'] 56))
  replace x0_0 := cell_old (.cells #[.slice b rows1.length d, .slice b' zs1.length d'] 56) x0_0
  replace x0_1 := cell_old (.cells #[.slice b rows1.length d, .slice b' zs1.length d'] 56) x0_1
  have x1_0 : ((w.alloc (.cells #[.slice a rows.length c, .slice a' zs.length c'] 56)).alloc (.cells #[.slice b rows1.length d, .slice b' zs1.length d'] 56)).cell? ⟨w.heap.size + 1, 0, none⟩ = some (.slice b rows1.length d) := cell_new _ _ _ (by simp) rfl
  have x1_1 : ((w.alloc (.cells #[.slice a rows.length c, .slice a' zs.length c'] 56)).alloc (.cells #[.slice b rows1.length d, .slice b' zs1.length d'] 56)).cell? ⟨w.heap.size + 1, 1, none⟩ = some (.slice b' zs1.length d') := cell_new _ _ _ (by simp) rfl
  replace HB0 := Lib.hid (HB0.out.alloc (by simp) (.cells #[.slice b rows1.length d, .slice b' zs1.length d'] 56))
  replace x0_0 := cell_old (.cells #[.slice none 0 0, .slice none 0 0] 56) x0_0
  replace x0_1 := cell_old (.cells #[.slice none 0 0, .slice none 0 0] 56) x0_1
  replace x1_0 := cell_old (.cells #[.slice none 0 0, .slice none 0 0] 56) x1_0
  replace x1_1 := cell_old (.cells #[.slice none 0 0, .slice none 0 0] 56) x1_1
  have x2_0 : (((w.alloc (.cells #[.slice a rows.length c, .slice a' zs.length c'] 56)).alloc (.cells #[.slice b rows1.length d, .slice b' zs1.length d'] 56)).alloc (.cells #[.slice none 0 0, .slice none 0 0] 56)).cell? ⟨w.heap.size + 1 + 1, 0, none⟩ = some (.slice none 0 0) := cell_new _ _ _ (by simp) rfl
  have x2_1 : (((w.alloc (.cells #[.slice a rows.length c, .slice a' zs.length c'] 56)).alloc (.cells #[.slice b rows1.length d, .slice b' zs1.length d'] 56)).alloc (.cells #[.slice none 0 0, .slice none 0 0] 56)).cell? ⟨w.heap.size + 1 + 1, 1, none⟩ = some (.slice none 0 0) := cell_new _ _ _ (by simp) rfl
  have f2_0 : (((w.alloc (.cells #[.slice a rows.length c, .slice a' zs.length c'] 56)).alloc (.cells #[.slice b rows1.length d, .slice b' zs1.length d'] 56)).alloc (.cells #[.slice none 0 0, .slice none 0 0] 56)).frozen? ⟨w.heap.size + 1 + 1, 0, none⟩ = false := fro_new _ _ _ (by simp)
  have f2_1 : (((w.alloc (.cells #[.slice a rows.length c, .slice a' zs.length c'] 56)).alloc (.cells #[.slice b rows1.length d, .slice b' zs1.length d'] 56)).alloc (.cells #[.slice none 0 0, .slice none 0 0] 56)).frozen? ⟨w.heap.size + 1 + 1, 1, none⟩ = false := fro_new _ _ _ (by simp)
  replace HB0 := Lib.hid (HB0.out.alloc (by simp; omega) (.cells #[.slice none 0 0, .slice none 0 0] 56))
  have s0 : w.heap.size + 3 ≤ (((w.alloc (.cells #[.slice a rows.length c, .slice a' zs.length c'] 56)).alloc (.cells #[.slice b rows1.length d, .slice b' zs1.length d'] 56)).alloc (.cells #[.slice none 0 0, .slice none 0 0] 56)).heap.size := by simp
  generalize hw : (((w.alloc (.cells #[.slice a rows.length c, .slice a' zs.length c'] 56)).alloc (.cells #[.slice b rows1.length d, .slice b' zs1.length d'] 56)).alloc (.cells #[.slice none 0 0, .slice none 0 0] 56)) = w0 at *
  clear hw
  have n0_0 : w.heap.size < w0.heap.size := by omega
  have n0_1 : w.heap.size + 1 < w0.heap.size := by omega
  have n0_2 : w.heap.size + 1 + 1 < w0.heap.size := by omega
  refine (impl_sample a rows c a' zs c' _ (Hhr.out.below HB0.out) (Hhz.out.below HB0.out) hn hk HMM.out true h1).mono ?_
  rintro e w1 ⟨rfl, hb⟩
  have s1 : w0.heap.size ≤ w1.heap.size := hb.size
  have n1_0 : w.heap.size < w1.heap.size := by omega
  have n1_1 : w.heap.size + 1 < w1.heap.size := by omega
  have n1_2 : w.heap.size + 1 + 1 < w1.heap.size := by omega
  replace x0_0 := cell_below hb x0_0 (by omega)
  replace x0_1 := cell_below hb x0_1 (by omega)
  replace x1_0 := cell_below hb x1_0 (by omega)
  replace x1_1 := cell_below hb x1_1 (by omega)
  replace x2_0 := cell_below hb x2_0 (by omega)
  replace x2_1 := cell_below hb x2_1 (by omega)
  replace f2_0 := fro_below hb f2_0 (by omega)
  replace f2_1 := fro_below hb f2_1 (by omega)
  have HB1 := Lib.hid (HB0.out.trans (hb.mono (by omega)))
  clear hb
  go_wp2_with fail
  refine (impl_sample b rows1 d b' zs1 d' _ (Hhr1.out.below HB1.out) (Hhz1.out.below HB1.out) hn1 hk1 HM1.out false h2).mono ?_
  rintro e w2 ⟨rfl, hb⟩
  have s2 : w1.heap.size ≤ w2.heap.size := hb.size
  have n2_0 : w.heap.size < w2.heap.size := by omega
  have n2_1 : w.heap.size + 1 < w2.heap.size := by omega
  have n2_2 : w.heap.size + 1 + 1 < w2.heap.size := by omega
  replace x0_0 := cell_below hb x0_0 (by omega)
  replace x0_1 := cell_below hb x0_1 (by omega)
  replace x1_0 := cell_below hb x1_0 (by omega)
  replace x1_1 := cell_below hb x1_1 (by omega)
  replace x2_0 := cell_below hb x2_0 (by omega)
  replace x2_1 := cell_below hb x2_1 (by omega)
  replace f2_0 := fro_below hb f2_0 (by omega)
  replace f2_1 := fro_below hb f2_1 (by omega)
  have HB2 := Lib.hid (HB1.out.trans (hb.mono (by omega)))
  clear hb
  go_wp2_with fail
  refine bodyPost_ret (v := .tuple #[.agg #[.slice none 0 0, .slice none 0 0], .bool false]) (by simp [results, Try.results33, go_sem, x2_0, x2_1]) rfl ⟨_, _, rfl, OwnS.of (OwnG.nil w.heap.size 0 _) (OwnI.nil w.heap.size 0 _) (.inl (Nat.zero_le _)) (Nat.le_refl _) (Nat.le_refl _) (Nat.zero_le _) (Nat.zero_le _), ?_⟩
  exact (HB2.out.setCell (by simp; omega) _).setCell (by simp; omega) _
set_option maxRecDepth 100000 in
set_option maxHeartbeats 4000000 in
theorem spec_no1 (a : Option Addr) (rows : List (List Int)) (c : Nat) (a' : Option Addr) (zs : List Int) (c' : Nat) (b : Option Addr) (rows1 : List (List Int)) (d : Nat) (b' : Option Addr) (zs1 : List Int) (d' : Nat) (w : World) (hr : grid.Reads w a rows) (hz : ints.Reads .i64 w a' zs) (hr1 : grid.Reads w b rows1) (hz1 : ints.Reads .i64 w b' zs1) (hn : rows.length ≤ 1048576) (hk : zs.length ≤ 1048576) (hm : ∀ r ∈ rows, r.length ≤ 1048576) (hn1 : rows1.length ≤ 1048576) (hk1 : zs1.length ≤ 1048576) (hm1 : ∀ r ∈ rows1, r.length ≤ 1048576) (h1 : Hid (sampleB rows zs = false)) :
    Calls Try.prog 31 #[.agg #[.slice a rows.length c, .slice a' zs.length c'], .agg #[.slice b rows1.length d, .slice b' zs1.length d']] w (RetSB [] [] false w) := by
  have HMM := Lib.hid hm
  have HM1 := Lib.hid hm1
  clear hm hm1
  have Hhr := Lib.hid hr
  have Hhz := Lib.hid hz
  have Hhr1 := Lib.hid hr1
  have Hhz1 := Lib.hid hz1
  clear hr hz hr1 hz1
  go_enter Try.func31, Try.ntmps31
  go_wp2_with fail
  have x0_0 : (w.alloc (.cells #[.slice a rows.length c, .slice a' zs.length c'] 56)).cell? ⟨w.heap.size, 0, none⟩ = some (.slice a rows.length c) := cell_new _ _ _ (by simp) rfl
  have x0_1 : (w.alloc (.cells #[.slice a rows.length c, .slice a' zs.length c'] 56)).cell? ⟨w.heap.size, 1, none⟩ = some (.slice a' zs.length c') := cell_new _ _ _ (by simp) rfl
  have HB0 := Lib.hid (below_alloc w (.cells #[.slice a rows.length c, .slice a' zs.length c'] 56))
  replace x0_0 := cell_old (.cells #[.slice b rows1.length d, .slice b' zs1.length d'] 56) x0_0
  replace x0_1 := cell_old (.cells #[.slice b rows1.length d, .slice b' zs1.length d'] 56) x0_1
  have x1_0 : ((w.alloc (.cells #[.slice a rows.length c, .slice a' zs.length c'] 56)).alloc (.cells #[.slice b rows1.length d, .slice b' zs1.length d'] 56)).cell? ⟨w.heap.size + 1, 0, none⟩ = some (.slice b rows1.length d) := cell_new _ _ _ (by simp) rfl
  have x1_1 : ((w.alloc (.cells #[.slice a rows.length c, .slice a' zs.length c'] 56)).alloc (.cells #[.slice b rows1.length d, .slice b' zs1.length d'] 56)).cell? ⟨w.heap.size + 1, 1, none⟩ = some (.slice b' zs1.length d') := cell_new _ _ _ (by simp) rfl
  replace HB0 := Lib.hid (HB0.out.alloc (by simp) (.cells #[.slice b rows1.length d, .slice b' zs1.length d'] 56))
  replace x0_0 := cell_old (.cells #[.slice none 0 0, .slice none 0 0] 56) x0_0
  replace x0_1 := cell_old (.cells #[.slice none 0 0, .slice none 0 0] 56) x0_1
  replace x1_0 := cell_old (.cells #[.slice none 0 0, .slice none 0 0] 56) x1_0
  replace x1_1 := cell_old (.cells #[.slice none 0 0, .slice none 0 0] 56) x1_1
  have x2_0 : (((w.alloc (.cells #[.slice a rows.length c, .slice a' zs.length c'] 56)).alloc (.cells #[.slice b rows1.length d, .slice b' zs1.length d'] 56)).alloc (.cells #[.slice none 0 0, .slice none 0 0] 56)).cell? ⟨w.heap.size + 1 + 1, 0, none⟩ = some (.slice none 0 0) := cell_new _ _ _ (by simp) rfl
  have x2_1 : (((w.alloc (.cells #[.slice a rows.length c, .slice a' zs.length c'] 56)).alloc (.cells #[.slice b rows1.length d, .slice b' zs1.length d'] 56)).alloc (.cells #[.slice none 0 0, .slice none 0 0] 56)).cell? ⟨w.heap.size + 1 + 1, 1, none⟩ = some (.slice none 0 0) := cell_new _ _ _ (by simp) rfl
  have f2_0 : (((w.alloc (.cells #[.slice a rows.length c, .slice a' zs.length c'] 56)).alloc (.cells #[.slice b rows1.length d, .slice b' zs1.length d'] 56)).alloc (.cells #[.slice none 0 0, .slice none 0 0] 56)).frozen? ⟨w.heap.size + 1 + 1, 0, none⟩ = false := fro_new _ _ _ (by simp)
  have f2_1 : (((w.alloc (.cells #[.slice a rows.length c, .slice a' zs.length c'] 56)).alloc (.cells #[.slice b rows1.length d, .slice b' zs1.length d'] 56)).alloc (.cells #[.slice none 0 0, .slice none 0 0] 56)).frozen? ⟨w.heap.size + 1 + 1, 1, none⟩ = false := fro_new _ _ _ (by simp)
  replace HB0 := Lib.hid (HB0.out.alloc (by simp; omega) (.cells #[.slice none 0 0, .slice none 0 0] 56))
  have s0 : w.heap.size + 3 ≤ (((w.alloc (.cells #[.slice a rows.length c, .slice a' zs.length c'] 56)).alloc (.cells #[.slice b rows1.length d, .slice b' zs1.length d'] 56)).alloc (.cells #[.slice none 0 0, .slice none 0 0] 56)).heap.size := by simp
  generalize hw : (((w.alloc (.cells #[.slice a rows.length c, .slice a' zs.length c'] 56)).alloc (.cells #[.slice b rows1.length d, .slice b' zs1.length d'] 56)).alloc (.cells #[.slice none 0 0, .slice none 0 0] 56)) = w0 at *
  clear hw
  have n0_0 : w.heap.size < w0.heap.size := by omega
  have n0_1 : w.heap.size + 1 < w0.heap.size := by omega
  have n0_2 : w.heap.size + 1 + 1 < w0.heap.size := by omega
  refine (spec_sample a rows c a' zs c' _ (Hhr.out.below HB0.out) (Hhz.out.below HB0.out) hn hk HMM.out false h1).mono ?_
  rintro e w1 ⟨rfl, hb⟩
  have s1 : w0.heap.size ≤ w1.heap.size := hb.size
  have n1_0 : w.heap.size < w1.heap.size := by omega
  have n1_1 : w.heap.size + 1 < w1.heap.size := by omega
  have n1_2 : w.heap.size + 1 + 1 < w1.heap.size := by omega
  replace x0_0 := cell_below hb x0_0 (by omega)
  replace x0_1 := cell_below hb x0_1 (by omega)
  replace x1_0 := cell_below hb x1_0 (by omega)
  replace x1_1 := cell_below hb x1_1 (by omega)
  replace x2_0 := cell_below hb x2_0 (by omega)
  replace x2_1 := cell_below hb x2_1 (by omega)
  replace f2_0 := fro_below hb f2_0 (by omega)
  replace f2_1 := fro_below hb f2_1 (by omega)
  have HB1 := Lib.hid (HB0.out.trans (hb.mono (by omega)))
  clear hb
  go_wp2_with fail
  refine bodyPost_ret (v := .tuple #[.agg #[.slice none 0 0, .slice none 0 0], .bool false]) (by simp [results, Try.results31, go_sem, x2_0, x2_1]) rfl ⟨_, _, rfl, OwnS.of (OwnG.nil w.heap.size 0 _) (OwnI.nil w.heap.size 0 _) (.inl (Nat.zero_le _)) (Nat.le_refl _) (Nat.le_refl _) (Nat.zero_le _) (Nat.zero_le _), ?_⟩
  exact (HB1.out.setCell (by simp; omega) _).setCell (by simp; omega) _
set_option maxRecDepth 100000 in
set_option maxHeartbeats 4000000 in
theorem spec_no2 (a : Option Addr) (rows : List (List Int)) (c : Nat) (a' : Option Addr) (zs : List Int) (c' : Nat) (b : Option Addr) (rows1 : List (List Int)) (d : Nat) (b' : Option Addr) (zs1 : List Int) (d' : Nat) (w : World) (hr : grid.Reads w a rows) (hz : ints.Reads .i64 w a' zs) (hr1 : grid.Reads w b rows1) (hz1 : ints.Reads .i64 w b' zs1) (hn : rows.length ≤ 1048576) (hk : zs.length ≤ 1048576) (hm : ∀ r ∈ rows, r.length ≤ 1048576) (hn1 : rows1.length ≤ 1048576) (hk1 : zs1.length ≤ 1048576) (hm1 : ∀ r ∈ rows1, r.length ≤ 1048576) (h1 : Hid (sampleB rows zs = true)) (h2 : Hid (sampleB rows1 zs1 = false)) :
    Calls Try.prog 31 #[.agg #[.slice a rows.length c, .slice a' zs.length c'], .agg #[.slice b rows1.length d, .slice b' zs1.length d']] w (RetSB [] [] false w) := by
  have HMM := Lib.hid hm
  have HM1 := Lib.hid hm1
  clear hm hm1
  have Hhr := Lib.hid hr
  have Hhz := Lib.hid hz
  have Hhr1 := Lib.hid hr1
  have Hhz1 := Lib.hid hz1
  clear hr hz hr1 hz1
  go_enter Try.func31, Try.ntmps31
  go_wp2_with fail
  have x0_0 : (w.alloc (.cells #[.slice a rows.length c, .slice a' zs.length c'] 56)).cell? ⟨w.heap.size, 0, none⟩ = some (.slice a rows.length c) := cell_new _ _ _ (by simp) rfl
  have x0_1 : (w.alloc (.cells #[.slice a rows.length c, .slice a' zs.length c'] 56)).cell? ⟨w.heap.size, 1, none⟩ = some (.slice a' zs.length c') := cell_new _ _ _ (by simp) rfl
  have HB0 := Lib.hid (below_alloc w (.cells #[.slice a rows.length c, .slice a' zs.length c'] 56))
  replace x0_0 := cell_old (.cells #[.slice b rows1.length d, .slice b' zs1.length d'] 56) x0_0
  replace x0_1 := cell_old (.cells #[.slice b rows1.length d, .slice b' zs1.length d'] 56) x0_1
  have x1_0 : ((w.alloc (.cells #[.slice a rows.length c, .slice a' zs.length c'] 56)).alloc (.cells #[.slice b rows1.length d, .slice b' zs1.length d'] 56)).cell? ⟨w.heap.size + 1, 0, none⟩ = some (.slice b rows1.length d) := cell_new _ _ _ (by simp) rfl
  have x1_1 : ((w.alloc (.cells #[.slice a rows.length c, .slice a' zs.length c'] 56)).alloc (.cells #[.slice b rows1.length d, .slice b' zs1.length d'] 56)).cell? ⟨w.heap.size + 1, 1, none⟩ = some (.slice b' zs1.length d') := cell_new _ _ _ (by simp) rfl
  replace HB0 := Lib.hid (HB0.out.alloc (by simp) (.cells #[.slice b rows1.length d, .slice b' zs1.length d'] 56))
  replace x0_0 := cell_old (.cells #[.slice none 0 0, .slice none 0 0] 56) x0_0
  replace x0_1 := cell_old (.cells #[.slice none 0 0, .slice none 0 0] 56) x0_1
  replace x1_0 := cell_old (.cells #[.slice none 0 0, .slice none 0 0] 56) x1_0
  replace x1_1 := cell_old (.cells #[.slice none 0 0, .slice none 0 0] 56) x1_1
  have x2_0 : (((w.alloc (.cells #[.slice a rows.length c, .slice a' zs.length c'] 56)).alloc (.cells #[.slice b rows1.length d, .slice b' zs1.length d'] 56)).alloc (.cells #[.slice none 0 0, .slice none 0 0] 56)).cell? ⟨w.heap.size + 1 + 1, 0, none⟩ = some (.slice none 0 0) := cell_new _ _ _ (by simp) rfl
  have x2_1 : (((w.alloc (.cells #[.slice a rows.length c, .slice a' zs.length c'] 56)).alloc (.cells #[.slice b rows1.length d, .slice b' zs1.length d'] 56)).alloc (.cells #[.slice none 0 0, .slice none 0 0] 56)).cell? ⟨w.heap.size + 1 + 1, 1, none⟩ = some (.slice none 0 0) := cell_new _ _ _ (by simp) rfl
  have f2_0 : (((w.alloc (.cells #[.slice a rows.length c, .slice a' zs.length c'] 56)).alloc (.cells #[.slice b rows1.length d, .slice b' zs1.length d'] 56)).alloc (.cells #[.slice none 0 0, .slice none 0 0] 56)).frozen? ⟨w.heap.size + 1 + 1, 0, none⟩ = false := fro_new _ _ _ (by simp)
  have f2_1 : (((w.alloc (.cells #[.slice a rows.length c, .slice a' zs.length c'] 56)).alloc (.cells #[.slice b rows1.length d, .slice b' zs1.length d'] 56)).alloc (.cells #[.slice none 0 0, .slice none 0 0] 56)).frozen? ⟨w.heap.size + 1 + 1, 1, none⟩ = false := fro_new _ _ _ (by simp)
  replace HB0 := Lib.hid (HB0.out.alloc (by simp; omega) (.cells #[.slice none 0 0, .slice none 0 0] 56))
  have s0 : w.heap.size + 3 ≤ (((w.alloc (.cells #[.slice a rows.length c, .slice a' zs.length c'] 56)).alloc (.cells #[.slice b rows1.length d, .slice b' zs1.length d'] 56)).alloc (.cells #[.slice none 0 0, .slice none 0 0] 56)).heap.size := by simp
  generalize hw : (((w.alloc (.cells #[.slice a rows.length c, .slice a' zs.length c'] 56)).alloc (.cells #[.slice b rows1.length d, .slice b' zs1.length d'] 56)).alloc (.cells #[.slice none 0 0, .slice none 0 0] 56)) = w0 at *
  clear hw
  have n0_0 : w.heap.size < w0.heap.size := by omega
  have n0_1 : w.heap.size + 1 < w0.heap.size := by omega
  have n0_2 : w.heap.size + 1 + 1 < w0.heap.size := by omega
  refine (spec_sample a rows c a' zs c' _ (Hhr.out.below HB0.out) (Hhz.out.below HB0.out) hn hk HMM.out true h1).mono ?_
  rintro e w1 ⟨rfl, hb⟩
  have s1 : w0.heap.size ≤ w1.heap.size := hb.size
  have n1_0 : w.heap.size < w1.heap.size := by omega
  have n1_1 : w.heap.size + 1 < w1.heap.size := by omega
  have n1_2 : w.heap.size + 1 + 1 < w1.heap.size := by omega
  replace x0_0 := cell_below hb x0_0 (by omega)
  replace x0_1 := cell_below hb x0_1 (by omega)
  replace x1_0 := cell_below hb x1_0 (by omega)
  replace x1_1 := cell_below hb x1_1 (by omega)
  replace x2_0 := cell_below hb x2_0 (by omega)
  replace x2_1 := cell_below hb x2_1 (by omega)
  replace f2_0 := fro_below hb f2_0 (by omega)
  replace f2_1 := fro_below hb f2_1 (by omega)
  have HB1 := Lib.hid (HB0.out.trans (hb.mono (by omega)))
  clear hb
  go_wp2_with fail
  refine (spec_sample b rows1 d b' zs1 d' _ (Hhr1.out.below HB1.out) (Hhz1.out.below HB1.out) hn1 hk1 HM1.out false h2).mono ?_
  rintro e w2 ⟨rfl, hb⟩
  have s2 : w1.heap.size ≤ w2.heap.size := hb.size
  have n2_0 : w.heap.size < w2.heap.size := by omega
  have n2_1 : w.heap.size + 1 < w2.heap.size := by omega
  have n2_2 : w.heap.size + 1 + 1 < w2.heap.size := by omega
  replace x0_0 := cell_below hb x0_0 (by omega)
  replace x0_1 := cell_below hb x0_1 (by omega)
  replace x1_0 := cell_below hb x1_0 (by omega)
  replace x1_1 := cell_below hb x1_1 (by omega)
  replace x2_0 := cell_below hb x2_0 (by omega)
  replace x2_1 := cell_below hb x2_1 (by omega)
  replace f2_0 := fro_below hb f2_0 (by omega)
  replace f2_1 := fro_below hb f2_1 (by omega)
  have HB2 := Lib.hid (HB1.out.trans (hb.mono (by omega)))
  clear hb
  go_wp2_with fail
  refine bodyPost_ret (v := .tuple #[.agg #[.slice none 0 0, .slice none 0 0], .bool false]) (by simp [results, Try.results31, go_sem, x2_0, x2_1]) rfl ⟨_, _, rfl, OwnS.of (OwnG.nil w.heap.size 0 _) (OwnI.nil w.heap.size 0 _) (.inl (Nat.zero_le _)) (Nat.le_refl _) (Nat.le_refl _) (Nat.zero_le _) (Nat.zero_le _), ?_⟩
  exact (HB2.out.setCell (by simp; omega) _).setCell (by simp; omega) _
end Go.Proofs.Ytoephhhofkmgjab.joinsn
