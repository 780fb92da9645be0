/- Several texts in one. -/
import Derived.BigQuiet
import Derived.Deep.DrawnRows
import Derived.Deep.RegionHeld3
import Derived.Test.YthohnnobahcdpaaBrG48
import Derived.Test.YthohnnobahcdpaaBrG13
import Derived.Test.YthohnnobahcdpaaBrG45
import Derived.Test.YthohnnobahcdpaaGrid
namespace Go.Proofs.Ythohnnobahcdpaa.roundss
open Go.RowKit own pp nums range samplesv samplest dots sides both sidesof misof mistakes hefts wm bndp stmp stmo stms stmt margin even boostp boostl bestp bests boosts boosti boundb
set_option linter.unusedVariables false
set_option linter.unusedSimpArgs false

set_option maxRecDepth 100000 in
set_option maxHeartbeats 1600000 in
theorem spec_rounds_no (a : Option Addr) (rows : List (List Int)) (c : Nat) (a' : Option Addr) (zs : List Int) (c' : Nat) (n : Int) (w : World) (hr : grid.Reads w a rows) (hz : ints.Reads .i64 w a' zs) (hn : rows.length ≤ 1048576) (hk : zs.length ≤ 1048576) (hm : ∀ r ∈ rows, r.length ≤ 1048576) (h : bkB rows zs 0 n = false) :
    Calls Try.prog 39 #[.agg #[.slice a rows.length c, .slice a' zs.length c'], .int .i64 n] w (RetJIB [] [] false w) := by
  have Hhr := Lib.hid hr
  have Hhz := Lib.hid hz
  have Hhm := Lib.hid hm
  clear hr hz hm
  cases hp9 : hpB rows zs
  · have HP := Lib.hid hp9
    clear h hp9
    go_enter Try.func39, Try.ntmps39
    obtain ⟨wb1, hw1⟩ : ∃ wb1 : World, wb1 = w.alloc (.cells #[.slice a rows.length c, .slice a' zs.length c'] 38) := ⟨_, rfl⟩
    have z1 : wb1.heap.size = w.heap.size + 1 := by rw [hw1]; simp
    have x0_0 := (by rw [hw1]; exact cell_new _ _ _ rfl rfl : wb1.cell? ⟨w.heap.size, 0, none⟩ = some (.slice a rows.length c))
    have x0_1 := (by rw [hw1]; exact cell_new _ _ _ rfl rfl : wb1.cell? ⟨w.heap.size, 1, none⟩ = some (.slice a' zs.length c'))
    have HB0 := Lib.hid (show Below w.heap.size w wb1 by rw [hw1]; exact (Below.refl w.heap.size w).alloc (Nat.le_refl _) _)
    have s1 : w.heap.size + 1 ≤ wb1.heap.size := by omega
    have HZ1 := Lib.hid z1
    clear z1
    go_wp2_with fail
    rw [← hw1]
    clear hw1
    refine (spec_some a rows c a' zs c' _ (Hhr.out.below HB0.out) (Hhz.out.below HB0.out) hn hk Hhm.out false HP).mono ?_
    rintro e w2 ⟨rfl, hb2⟩
    have HB2 := Lib.hid (HB0.out.trans (hb2.mono (by omega)))
    have y0_0 := cell_below hb2 x0_0 (by omega)
    have y0_1 := cell_below hb2 x0_1 (by omega)
    have s2 := hb2.size
    clear hb2 x0_0 x0_1
    go_wp2_with fail
    go_ret3
    exact ret_none HB2.out
  · have HX := Lib.hid (show (decide (0 ≤ n) && decide (n ≤ 8)) = false by rw [← h]; unfold bkB; rw [hp9]; rfl)
    have HP := Lib.hid hp9
    clear h hp9
    go_enter Try.func39, Try.ntmps39
    obtain ⟨wb1, hw1⟩ : ∃ wb1 : World, wb1 = w.alloc (.cells #[.slice a rows.length c, .slice a' zs.length c'] 38) := ⟨_, rfl⟩
    have z1 : wb1.heap.size = w.heap.size + 1 := by rw [hw1]; simp
    have x0_0 := (by rw [hw1]; exact cell_new _ _ _ rfl rfl : wb1.cell? ⟨w.heap.size, 0, none⟩ = some (.slice a rows.length c))
    have x0_1 := (by rw [hw1]; exact cell_new _ _ _ rfl rfl : wb1.cell? ⟨w.heap.size, 1, none⟩ = some (.slice a' zs.length c'))
    have HB0 := Lib.hid (show Below w.heap.size w wb1 by rw [hw1]; exact (Below.refl w.heap.size w).alloc (Nat.le_refl _) _)
    have s1 : w.heap.size + 1 ≤ wb1.heap.size := by omega
    have HZ1 := Lib.hid z1
    clear z1
    go_wp2_with fail
    rw [← hw1]
    clear hw1
    refine (spec_some a rows c a' zs c' _ (Hhr.out.below HB0.out) (Hhz.out.below HB0.out) hn hk Hhm.out true HP).mono ?_
    rintro e w2 ⟨rfl, hb2⟩
    have HB2 := Lib.hid (HB0.out.trans (hb2.mono (by omega)))
    have y0_0 := cell_below hb2 x0_0 (by omega)
    have y0_1 := cell_below hb2 x0_1 (by omega)
    have s2 := hb2.size
    clear hb2 x0_0 x0_1
    go_wp2_with fail
    refine (in_any _ _ _ _ false HX).mono ?_
    rintro e w' ⟨rfl, rfl⟩
    go_wp2_with fail
    go_ret3
    exact ret_none HB2.out
set_option maxRecDepth 100000 in
set_option maxHeartbeats 1600000 in
theorem spec_rounds_yes (a : Option Addr) (rows : List (List Int)) (c : Nat) (a' : Option Addr) (zs : List Int) (c' : Nat) (n : Int) (w : World) (hr : grid.Reads w a rows) (hz : ints.Reads .i64 w a' zs) (hn : rows.length ≤ 1048576) (hk : zs.length ≤ 1048576) (hm : ∀ r ∈ rows, r.length ≤ 1048576) (h : bkB rows zs 0 n = true) :
    Calls Try.prog 39 #[.agg #[.slice a rows.length c, .slice a' zs.length c'], .int .i64 n] w (RetJIB (bsTo rows zs n.toNat) (hfTo rows zs n.toNat) true w) := by
  obtain ⟨hp, R, rfl, hlo, h8⟩ := bk_yes h (by omega)
  have HX := Lib.hid (show (decide ((0 : Int) ≤ (R : Int)) && decide ((R : Int) ≤ 8)) = true by simp; omega)
  have HP := Lib.hid hp
  have HBO := Lib.hid (fun (wa : World) (hB : Below w.heap.size w wa) => spec_boost a rows c a' zs c' R wa (hr.below hB) (hz.below hB) hn hk hm h8 hp)
  have Hhr := Lib.hid hr
  have Hhz := Lib.hid hz
  have Hhm := Lib.hid hm
  clear hr hz hm
  clear h hp
  go_enter Try.func39, Try.ntmps39
  obtain ⟨wb1, hw1⟩ : ∃ wb1 : World, wb1 = w.alloc (.cells #[.slice a rows.length c, .slice a' zs.length c'] 38) := ⟨_, rfl⟩
  have z1 : wb1.heap.size = w.heap.size + 1 := by rw [hw1]; simp
  have x0_0 := (by rw [hw1]; exact cell_new _ _ _ rfl rfl : wb1.cell? ⟨w.heap.size, 0, none⟩ = some (.slice a rows.length c))
  have x0_1 := (by rw [hw1]; exact cell_new _ _ _ rfl rfl : wb1.cell? ⟨w.heap.size, 1, none⟩ = some (.slice a' zs.length c'))
  have HB0 := Lib.hid (show Below w.heap.size w wb1 by rw [hw1]; exact (Below.refl w.heap.size w).alloc (Nat.le_refl _) _)
  have s1 : w.heap.size + 1 ≤ wb1.heap.size := by omega
  have HZ1 := Lib.hid z1
  clear z1
  go_wp2_with fail
  rw [← hw1]
  clear hw1
  refine (spec_some a rows c a' zs c' _ (Hhr.out.below HB0.out) (Hhz.out.below HB0.out) hn hk Hhm.out true HP).mono ?_
  rintro e w2 ⟨rfl, hb2⟩
  have HB2 := Lib.hid (HB0.out.trans (hb2.mono (by omega)))
  have y0_0 := cell_below hb2 x0_0 (by omega)
  have y0_1 := cell_below hb2 x0_1 (by omega)
  have s2 := hb2.size
  clear hb2 x0_0 x0_1
  go_wp2_with fail
  refine (in_any _ _ _ _ true HX).mono ?_
  rintro e w' ⟨rfl, rfl⟩
  go_wp2_with fail
  refine (HBO.out _ HB2.out).mono ?_
  rintro e w3 ⟨v3, u3, rfl, ⟨gh, cs3, hgh, hoi, hok, hav⟩, hb3⟩
  have HFin := Lib.hid (show RetJIB (bsTo rows zs ((R : Nat) : Int).toNat) (hfTo rows zs ((R : Nat) : Int).toNat) true w (.returned (.tuple #[v3, u3, .bool true])) w3 from ⟨v3, u3, rfl, ⟨gh, cs3, hgh, hoi.mono HB2.out.size (Nat.le_refl _), OwnK.mono' hok HB2.out.size (Nat.le_refl _), hav⟩, HB2.out.trans (hb3.mono HB2.out.size)⟩)
  clear hb3 hoi hok hav hgh y0_0 y0_1
  go_wp2_with fail
  go_ret3
  exact HFin.out
end Go.Proofs.Ythohnnobahcdpaa.roundss

namespace Go.Proofs.Ythohnnobahcdpaa.boostt
open Go.RowKit own pp nums range samplesv samplest dots sides both sidesof misof mistakes hefts wm bndp stmp stmo stms stmt margin even boostp boostl bestp bests boosts boosti boundb roundss
set_option linter.unusedVariables false
set_option linter.unusedSimpArgs false

theorem tot_one (ps : List (List Int × Int)) (x : List Int × Int) : planesfns.totJ (ps ++ [x]) = planesfns.totJ ps + x.1.length := by
  simp [planesfns.totJ, grid.tot]
theorem bs_tot {rows : List (List Int)} {zs : List Int} (hp : hpB rows zs = true) (R : Nat) : (bsTo rows zs R).length + planesfns.totJ (bsTo rows zs R) ≤ R * 5 := by
  induction R with
  | zero => simp [bsTo, planesfns.totJ, grid.tot]
  | succ R ih =>
    have h4 := ((planeB_iff _ _).1 ((bothB_iff _ _ _ _).1 (stump_both hp _ (best_mem hp (hfTo rows zs R)))).2.1).2.1
    unfold bsTo
    rw [tot_one, List.length_append]
    simp only [List.length_singleton]
    omega
theorem spec_rounds (a : Option Addr) (rows : List (List Int)) (c : Nat) (a' : Option Addr) (zs : List Int) (c' : Nat) (w : World) (hr : grid.Reads w a rows) (hz : ints.Reads .i64 w a' zs) (hn : rows.length ≤ 1048576) (hk : zs.length ≤ 1048576) (hm : ∀ r ∈ rows, r.length ≤ 1048576) (n : Int) (R : Nat) (hR : n = R) (h : bkB rows zs 0 n = true) : Calls Try.prog 39 #[.agg #[.slice a rows.length c, .slice a' zs.length c'], .int .i64 n] w (RetJIB (bsTo rows zs R) (hfTo rows zs R) true w) := by
  have h1 := spec_rounds_yes a rows c a' zs c' n w hr hz hn hk hm h
  rw [show n.toNat = R by omega] at h1
  exact h1
theorem impl_rounds (a : Option Addr) (rows : List (List Int)) (c : Nat) (a' : Option Addr) (zs : List Int) (c' : Nat) (w : World) (hr : grid.Reads w a rows) (hz : ints.Reads .i64 w a' zs) (hn : rows.length ≤ 1048576) (hk : zs.length ≤ 1048576) (hm : ∀ r ∈ rows, r.length ≤ 1048576) (n : Int) (R : Nat) (hR : n = R) (h8 : R ≤ 8) (hp : hpB rows zs = true) : Calls Try.prog 40 #[.agg #[.slice a rows.length c, .slice a' zs.length c'], .int .i64 n] w (RetJIB (bsTo rows zs R) (hfTo rows zs R) true w) := by
  subst hR
  exact impl_rounds_yes a rows c a' zs c' R w hr hz hn hk hm h8 hp
end Go.Proofs.Ythohnnobahcdpaa.boostt

namespace Go.Proofs.Ythohnnobahcdpaa.fnExactBoostRoundsl
open Go.RowKit own pp
set_option linter.unusedVariables false

theorem law (a0 : Option Addr) (rows0 : List (List Int)) (c0 : Nat) (e0 : Option Addr) (zs0 : List Int) (d0 : Nat) (n1 : Int) (w : World) (hr0 : grid.Reads w a0 rows0) (hm0 : ∀ r ∈ rows0, r.length ≤ maxLen ∧ ∀ z ∈ r, grid.Fits z) (hl0 : rows0.length ≤ maxLen) (hq0 : ints.Reads .i64 w e0 zs0) (hf0 : ∀ z ∈ zs0, grid.Fits z) (hk0 : zs0.length ≤ maxLen) (hn1 : (Lit.int .i64 n1).wf = true) :
    Calls Try.prog 7 #[.agg #[.slice a0 rows0.length c0, .slice e0 zs0.length d0], .int .i64 n1] w fun e w' => e = .returned (.bool true) ∧ Below w.heap.size w w' := by
  unfold maxLen at hl0 hk0 hm0
  by_cases hs : (rows0.length : Int) + (grid.tot rows0 : Int) + (zs0.length : Int) ≤ 1048576
  · have hs0 := hs
    cases hk : boundb.bkB rows0 zs0 0 n1
    · exact fnExactBoostRoundsw.law_small a0 rows0 c0 e0 zs0 d0 n1 [] [] false w hr0 hq0 hs0 (by simp [planesfns.totJ, grid.tot]) (by simp) (Lib.hid fun _ _ _ _ w h hz => roundss.spec_rounds_no _ rows0 _ _ zs0 _ n1 w h hz (by omega) (by omega) (fun r hr => by have := grid.len_le_tot rows0 r hr; omega) hk) (Lib.hid fun _ _ _ _ w h hz => boundb.impl_rounds_no _ rows0 _ _ zs0 _ n1 w h hz (by omega) (by omega) (fun r hr => by have := grid.len_le_tot rows0 r hr; omega) hk)
    obtain ⟨hp, R, hR, _, h8⟩ := boundb.bk_yes hk (by omega)
    have hbd := boostt.bs_tot (zs := zs0) hp R
    have hfl := boostp.hfTo_length rows0 zs0 R
    exact fnExactBoostRoundsw.law_small a0 rows0 c0 e0 zs0 d0 n1 (boostp.bsTo rows0 zs0 R) (boostp.hfTo rows0 zs0 R) true w hr0 hq0 hs0 (by omega) (by omega) (Lib.hid fun _ _ _ _ w h hz => boostt.spec_rounds _ rows0 _ _ zs0 _ w h hz (by omega) (by omega) (fun r hr => by have := grid.len_le_tot rows0 r hr; omega) n1 R hR hk) (Lib.hid fun _ _ _ _ w h hz => boostt.impl_rounds _ rows0 _ _ zs0 _ w h hz (by omega) (by omega) (fun r hr => by have := grid.len_le_tot rows0 r hr; omega) n1 R hR h8 hp)
  · exact fnExactBoostRoundsw.law_big a0 rows0 c0 e0 zs0 d0 n1 w hr0 hq0 hl0 (fun s hs => (hm0 s hs).1) hk0 hs
end Go.Proofs.Ythohnnobahcdpaa.fnExactBoostRoundsl
