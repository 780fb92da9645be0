/- The walk of the model's runs. -/
import Derived.Test.YtocbklmkphgkeaaBag
import Derived.Test.YtocbklmkphgkeaaRunP
import Derived.Test.YtocbklmkphgkeaaStep
import Derived.Test.YtocbklmkphgkeaaMargin
import Derived.Test.YtocbklmkphgkeaaRange
import Derived.Test.YtocbklmkphgkeaaKept
import Derived.Test.YtocbklmkphgkeaaMoveS
import Derived.Deep.AppendLies
namespace Go.Proofs.Ytocbklmkphgkeaa.made
open Go.RowKit own own1 pp nums dots fill step range kept samplest samplesv planes runp
set_option linter.unusedVariables false
set_option linter.unusedSimpArgs false
attribute [local go_sem ↓] Go.wp_at_zero Go.wp_at_succ

theorem infoP : (Try.prog.info? 46).map (fun i => (i.zero, i.size, i.bytes)) = some (some (.agg #[.slice none 0 0, .int .i64 0]), 2, 32) := by kernel_rfl
def nil3 : Value := .agg #[.slice none 0 0, .slice none 0 0, .slice none 0 0]
/-- How a run comes back. -/
def PostMade (ok : Bool) (F : Sta) (w : World) (e : Ending) (w' : World) : Prop :=
  Below w.heap.size w w' ∧ (ok = true → ∃ (v1 v2 v3 v : Value) (vs : List Value) (lo B : Nat), e = .returned (.tuple #[.agg #[v1, v2, v3], .bool true]) ∧ vs.length = F.pl.length ∧ w.heap.size ≤ lo ∧ RM lo B w' v1 v2 v3 (vs ++ [v]) (F.pl ++ [F.p]) F.tr F.mi) ∧
    (ok = false → e = .returned (.tuple #[nil3, .bool false]))
theorem RM.setLow {lo B : Nat} {w : World} {v1 v2 v3 : Value} {vs : List Value} {PL : List (List Int × Int)} {TR MI : List Int} (h : RM lo B w v1 v2 v3 vs PL TR MI) {a : Addr} (ha : a.block < lo) (u : Value) : RM lo B (w.setCell a u) v1 v2 v3 vs PL TR MI :=
  ⟨h.1, h.2.keep fun x hx g hg => Below.heap_setCell _ _ _ _ (by have := ((h.2.1 x hx).1.lt g hg).1; omega)⟩
theorem fro_old {w : World} (O : Obj) {b o : Nat} (hb : b < w.heap.size) (hx : w.frozen? ⟨b, o, none⟩ = false) : (w.alloc O).frozen? ⟨b, o, none⟩ = false := fro_below (below_alloc w O) hx hb
structure RF (rows : List (List Int)) (zs : List Int) : Prop where
  len : ∀ i, i < rows.length → (rows.getD i []).length = (rows.getD 0 []).length
  dim : 1 ≤ (rows.getD 0 []).length ∧ (rows.getD 0 []).length ≤ 4
  nums : ∀ i, i < rows.length → numsB 9 (rows.getD i []) = true
  lab : ∀ i, i < rows.length → zs.getD i 0 = 1 ∨ zs.getD i 0 = -1
  few : rows.length ≤ 16
  pos : 0 < rows.length
  both : zs.length = rows.length
theorem rf_of {rows : List (List Int)} {zs : List Int} {r : Int} (h : rnB rows zs r = true) : RF rows zs ∧ ∃ R : Nat, r = R ∧ 1 ≤ R ∧ R ≤ 12 := by
  obtain ⟨h1, h2, h3, h4⟩ := (rnB_iff _ _ _).1 h
  obtain ⟨s1, s2, s3, s4⟩ := (sampleB_iff _ _).1 h1
  have p0 := (pointB_iff _).1 (moves.row_ok h1 0 h2).1
  exact ⟨⟨fun i hi => (moves.row_ok h1 i hi).2, ⟨p0.1, p0.2.1⟩, fun i hi => ((pointB_iff _).1 (moves.row_ok h1 i hi).1).2.2, fun i hi => (labelB_iff _).1 (all_at _ 0 zs s3 i (by omega)), s1, h2, s2⟩, r.toNat, by omega, by omega, by omega⟩
/-- What a step asks for, at a state with a plane. -/
theorem st_fit {rows : List (List Int)} {zs : List Int} (h : RF rows zs) {s : Sta} (hp : okP s = true) (hd : s.p.1.length = (rows.getD 0 []).length) (k : Nat) (hk : k < rows.length) : Fit s.p.1 (rows.getD k []) s.p.2 (zs.getD k 0) := by
  obtain ⟨q1, q2, q3, q4⟩ := (planeB_iff _ _).1 hp
  have := (inB_iff _ _).1 q4
  have hl := h.lab k hk
  refine ⟨by rw [hd]; exact h.len k hk, q1, q2, numsB_le q3 (by decide), h.nums k hk, by omega, by omega⟩
theorem ini_ok (rows : List (List Int)) (h : 1 ≤ (rows.getD 0 []).length ∧ (rows.getD 0 []).length ≤ 4) : okP (ini rows) = true := by
  show planeB (List.replicate (rows.getD 0 []).length 0) 0 = true
  generalize (rows.getD 0 []).length = d at h
  refine (planeB_iff _ _).2 ⟨by rw [List.length_replicate]; exact h.1, by rw [List.length_replicate]; exact h.2, ?_, by decide⟩
  exact all_true _ 0 _ fun k hk => by
    rw [List.length_replicate] at hk
    rw [List.getD_eq_getElem?_getD, List.getElem?_replicate, if_pos hk]
    decide
set_option maxRecDepth 100000 in
set_option maxHeartbeats 4000000 in
theorem spec_no1 (a : Option Addr) (rows : List (List Int)) (c : Nat) (a' : Option Addr) (zs : List Int) (c' : Nat) (r : Int) (w : World) (hr : grid.Reads w a rows) (hz : ints.Reads .i64 w a' zs) (hn : rows.length ≤ 1048576) (hk : zs.length ≤ 1048576) (hm : ∀ r ∈ rows, r.length ≤ 1048576) (h : Hid (sampleB rows zs = false)) :
    Calls Try.prog 111 #[.agg #[.slice a rows.length c, .slice a' zs.length c'], .int .i64 r] w (fun e w' => Below w.heap.size w w' ∧ e = .returned (.tuple #[nil3, .bool false])) := by
  have HMM := Lib.hid hm
  clear hm
  have Hhr := Lib.hid hr
  have Hhz := Lib.hid hz
  clear hr hz
  go_enter Try.func111, Try.ntmps111
  go_wp2_with fail
  have x0_0 : (w.alloc (.cells #[.slice a rows.length c, .slice a' zs.length c'] 27)).cell? ⟨w.heap.size, 0, none⟩ = some (.slice a rows.length c) := cell_new _ _ _ (by simp) rfl
  have x0_1 : (w.alloc (.cells #[.slice a rows.length c, .slice a' zs.length c'] 27)).cell? ⟨w.heap.size, 1, none⟩ = some (.slice a' zs.length c') := cell_new _ _ _ (by simp) rfl
  have HB0 := Lib.hid (below_alloc w (.cells #[.slice a rows.length c, .slice a' zs.length c'] 27))
  replace x0_0 := cell_old (.cells #[.slice none 0 0, .slice none 0 0, .slice none 0 0] 117) x0_0
  replace x0_1 := cell_old (.cells #[.slice none 0 0, .slice none 0 0, .slice none 0 0] 117) x0_1
  have x1_0 : ((w.alloc (.cells #[.slice a rows.length c, .slice a' zs.length c'] 27)).alloc (.cells #[.slice none 0 0, .slice none 0 0, .slice none 0 0] 117)).cell? ⟨w.heap.size + 1, 0, none⟩ = some (.slice none 0 0) := cell_new _ _ _ (by simp) rfl
  have x1_1 : ((w.alloc (.cells #[.slice a rows.length c, .slice a' zs.length c'] 27)).alloc (.cells #[.slice none 0 0, .slice none 0 0, .slice none 0 0] 117)).cell? ⟨w.heap.size + 1, 1, none⟩ = some (.slice none 0 0) := cell_new _ _ _ (by simp) rfl
  have x1_2 : ((w.alloc (.cells #[.slice a rows.length c, .slice a' zs.length c'] 27)).alloc (.cells #[.slice none 0 0, .slice none 0 0, .slice none 0 0] 117)).cell? ⟨w.heap.size + 1, 2, none⟩ = some (.slice none 0 0) := cell_new _ _ _ (by simp) rfl
  have f1_0 : ((w.alloc (.cells #[.slice a rows.length c, .slice a' zs.length c'] 27)).alloc (.cells #[.slice none 0 0, .slice none 0 0, .slice none 0 0] 117)).frozen? ⟨w.heap.size + 1, 0, none⟩ = false := fro_new _ _ _ (by simp)
  have f1_1 : ((w.alloc (.cells #[.slice a rows.length c, .slice a' zs.length c'] 27)).alloc (.cells #[.slice none 0 0, .slice none 0 0, .slice none 0 0] 117)).frozen? ⟨w.heap.size + 1, 1, none⟩ = false := fro_new _ _ _ (by simp)
  have f1_2 : ((w.alloc (.cells #[.slice a rows.length c, .slice a' zs.length c'] 27)).alloc (.cells #[.slice none 0 0, .slice none 0 0, .slice none 0 0] 117)).frozen? ⟨w.heap.size + 1, 2, none⟩ = false := fro_new _ _ _ (by simp)
  replace HB0 := Lib.hid (HB0.out.alloc (by simp) (.cells #[.slice none 0 0, .slice none 0 0, .slice none 0 0] 117))
  have s0 : w.heap.size + 2 ≤ ((w.alloc (.cells #[.slice a rows.length c, .slice a' zs.length c'] 27)).alloc (.cells #[.slice none 0 0, .slice none 0 0, .slice none 0 0] 117)).heap.size := by simp
  generalize hw : ((w.alloc (.cells #[.slice a rows.length c, .slice a' zs.length c'] 27)).alloc (.cells #[.slice none 0 0, .slice none 0 0, .slice none 0 0] 117)) = w0 at *
  clear hw
  have n0_0 : w.heap.size < w0.heap.size := by omega
  have n0_1 : w.heap.size + 1 < w0.heap.size := by omega
  refine (spec_sample a rows c a' zs c' _ (Hhr.out.below HB0.out) (Hhz.out.below HB0.out) hn hk HMM.out false h).mono ?_
  rintro e w1 ⟨rfl, hb⟩
  have s1 : w0.heap.size ≤ w1.heap.size := hb.size
  have n1_0 : w.heap.size < w1.heap.size := by omega
  have n1_1 : w.heap.size + 1 < w1.heap.size := by omega
  replace x0_0 := cell_below hb x0_0 (by omega)
  replace x0_1 := cell_below hb x0_1 (by omega)
  replace x1_0 := cell_below hb x1_0 (by omega)
  replace x1_1 := cell_below hb x1_1 (by omega)
  replace x1_2 := cell_below hb x1_2 (by omega)
  replace f1_0 := fro_below hb f1_0 (by omega)
  replace f1_1 := fro_below hb f1_1 (by omega)
  replace f1_2 := fro_below hb f1_2 (by omega)
  have HB1 := Lib.hid (HB0.out.trans (hb.mono (by omega)))
  clear hb
  go_wp2_with fail
  refine bodyPost_ret (v := .tuple #[nil3, .bool false]) (by simp [nil3, results, Try.results111, go_sem, x1_0, x1_1, x1_2]) rfl ⟨?_, rfl⟩
  exact (((HB1.out.setCell (by simp) _).setCell (by simp) _).setCell (by simp) _)
set_option maxRecDepth 100000 in
set_option maxHeartbeats 4000000 in
theorem spec_no2 (a : Option Addr) (rows : List (List Int)) (c : Nat) (a' : Option Addr) (zs : List Int) (c' : Nat) (r : Int) (w : World) (hr : grid.Reads w a rows) (hz : ints.Reads .i64 w a' zs) (hn : rows.length ≤ 1048576) (hk : zs.length ≤ 1048576) (hm : ∀ r ∈ rows, r.length ≤ 1048576) (h1 : Hid (sampleB rows zs = true)) (h : rows.length = 0) :
    Calls Try.prog 111 #[.agg #[.slice a rows.length c, .slice a' zs.length c'], .int .i64 r] w (fun e w' => Below w.heap.size w w' ∧ e = .returned (.tuple #[nil3, .bool false])) := by
  have HMM := Lib.hid hm
  clear hm
  have g0 : ((rows.length : Int) == 0) = true := by rw [beq_iff_eq]; omega
  clear h
  have Hhr := Lib.hid hr
  have Hhz := Lib.hid hz
  clear hr hz
  go_enter Try.func111, Try.ntmps111
  go_wp2_with fail
  have x0_0 : (w.alloc (.cells #[.slice a rows.length c, .slice a' zs.length c'] 27)).cell? ⟨w.heap.size, 0, none⟩ = some (.slice a rows.length c) := cell_new _ _ _ (by simp) rfl
  have x0_1 : (w.alloc (.cells #[.slice a rows.length c, .slice a' zs.length c'] 27)).cell? ⟨w.heap.size, 1, none⟩ = some (.slice a' zs.length c') := cell_new _ _ _ (by simp) rfl
  have HB0 := Lib.hid (below_alloc w (.cells #[.slice a rows.length c, .slice a' zs.length c'] 27))
  replace x0_0 := cell_old (.cells #[.slice none 0 0, .slice none 0 0, .slice none 0 0] 117) x0_0
  replace x0_1 := cell_old (.cells #[.slice none 0 0, .slice none 0 0, .slice none 0 0] 117) x0_1
  have x1_0 : ((w.alloc (.cells #[.slice a rows.length c, .slice a' zs.length c'] 27)).alloc (.cells #[.slice none 0 0, .slice none 0 0, .slice none 0 0] 117)).cell? ⟨w.heap.size + 1, 0, none⟩ = some (.slice none 0 0) := cell_new _ _ _ (by simp) rfl
  have x1_1 : ((w.alloc (.cells #[.slice a rows.length c, .slice a' zs.length c'] 27)).alloc (.cells #[.slice none 0 0, .slice none 0 0, .slice none 0 0] 117)).cell? ⟨w.heap.size + 1, 1, none⟩ = some (.slice none 0 0) := cell_new _ _ _ (by simp) rfl
  have x1_2 : ((w.alloc (.cells #[.slice a rows.length c, .slice a' zs.length c'] 27)).alloc (.cells #[.slice none 0 0, .slice none 0 0, .slice none 0 0] 117)).cell? ⟨w.heap.size + 1, 2, none⟩ = some (.slice none 0 0) := cell_new _ _ _ (by simp) rfl
  have f1_0 : ((w.alloc (.cells #[.slice a rows.length c, .slice a' zs.length c'] 27)).alloc (.cells #[.slice none 0 0, .slice none 0 0, .slice none 0 0] 117)).frozen? ⟨w.heap.size + 1, 0, none⟩ = false := fro_new _ _ _ (by simp)
  have f1_1 : ((w.alloc (.cells #[.slice a rows.length c, .slice a' zs.length c'] 27)).alloc (.cells #[.slice none 0 0, .slice none 0 0, .slice none 0 0] 117)).frozen? ⟨w.heap.size + 1, 1, none⟩ = false := fro_new _ _ _ (by simp)
  have f1_2 : ((w.alloc (.cells #[.slice a rows.length c, .slice a' zs.length c'] 27)).alloc (.cells #[.slice none 0 0, .slice none 0 0, .slice none 0 0] 117)).frozen? ⟨w.heap.size + 1, 2, none⟩ = false := fro_new _ _ _ (by simp)
  replace HB0 := Lib.hid (HB0.out.alloc (by simp) (.cells #[.slice none 0 0, .slice none 0 0, .slice none 0 0] 117))
  have s0 : w.heap.size + 2 ≤ ((w.alloc (.cells #[.slice a rows.length c, .slice a' zs.length c'] 27)).alloc (.cells #[.slice none 0 0, .slice none 0 0, .slice none 0 0] 117)).heap.size := by simp
  generalize hw : ((w.alloc (.cells #[.slice a rows.length c, .slice a' zs.length c'] 27)).alloc (.cells #[.slice none 0 0, .slice none 0 0, .slice none 0 0] 117)) = w0 at *
  clear hw
  have n0_0 : w.heap.size < w0.heap.size := by omega
  have n0_1 : w.heap.size + 1 < w0.heap.size := by omega
  refine (spec_sample a rows c a' zs c' _ (Hhr.out.below HB0.out) (Hhz.out.below HB0.out) hn hk HMM.out true h1).mono ?_
  rintro e w1 ⟨rfl, hb⟩
  have s1 : w0.heap.size ≤ w1.heap.size := hb.size
  have n1_0 : w.heap.size < w1.heap.size := by omega
  have n1_1 : w.heap.size + 1 < w1.heap.size := by omega
  replace x0_0 := cell_below hb x0_0 (by omega)
  replace x0_1 := cell_below hb x0_1 (by omega)
  replace x1_0 := cell_below hb x1_0 (by omega)
  replace x1_1 := cell_below hb x1_1 (by omega)
  replace x1_2 := cell_below hb x1_2 (by omega)
  replace f1_0 := fro_below hb f1_0 (by omega)
  replace f1_1 := fro_below hb f1_1 (by omega)
  replace f1_2 := fro_below hb f1_2 (by omega)
  have HB1 := Lib.hid (HB0.out.trans (hb.mono (by omega)))
  clear hb
  go_wp2_with fail
  refine bodyPost_ret (v := .tuple #[nil3, .bool false]) (by simp [nil3, results, Try.results111, go_sem, x1_0, x1_1, x1_2]) rfl ⟨?_, rfl⟩
  exact (((HB1.out.setCell (by simp) _).setCell (by simp) _).setCell (by simp) _)
set_option maxRecDepth 100000 in
set_option maxHeartbeats 4000000 in
theorem spec_no3 (a : Option Addr) (rows : List (List Int)) (c : Nat) (a' : Option Addr) (zs : List Int) (c' : Nat) (r : Int) (w : World) (hr : grid.Reads w a rows) (hz : ints.Reads .i64 w a' zs) (hn : rows.length ≤ 1048576) (hk : zs.length ≤ 1048576) (hm : ∀ r ∈ rows, r.length ≤ 1048576) (h1 : Hid (sampleB rows zs = true)) (h0 : 0 < rows.length) (h : Hid ((decide (1 ≤ r) && decide (r ≤ 12)) = false)) :
    Calls Try.prog 111 #[.agg #[.slice a rows.length c, .slice a' zs.length c'], .int .i64 r] w (fun e w' => Below w.heap.size w w' ∧ e = .returned (.tuple #[nil3, .bool false])) := by
  have HMM := Lib.hid hm
  clear hm
  have g0 : ((rows.length : Int) == 0) = false := by rw [beq_eq_false_iff_ne]; omega
  clear h0
  have Hhr := Lib.hid hr
  have Hhz := Lib.hid hz
  clear hr hz
  go_enter Try.func111, Try.ntmps111
  go_wp2_with fail
  have x0_0 : (w.alloc (.cells #[.slice a rows.length c, .slice a' zs.length c'] 27)).cell? ⟨w.heap.size, 0, none⟩ = some (.slice a rows.length c) := cell_new _ _ _ (by simp) rfl
  have x0_1 : (w.alloc (.cells #[.slice a rows.length c, .slice a' zs.length c'] 27)).cell? ⟨w.heap.size, 1, none⟩ = some (.slice a' zs.length c') := cell_new _ _ _ (by simp) rfl
  have HB0 := Lib.hid (below_alloc w (.cells #[.slice a rows.length c, .slice a' zs.length c'] 27))
  replace x0_0 := cell_old (.cells #[.slice none 0 0, .slice none 0 0, .slice none 0 0] 117) x0_0
  replace x0_1 := cell_old (.cells #[.slice none 0 0, .slice none 0 0, .slice none 0 0] 117) x0_1
  have x1_0 : ((w.alloc (.cells #[.slice a rows.length c, .slice a' zs.length c'] 27)).alloc (.cells #[.slice none 0 0, .slice none 0 0, .slice none 0 0] 117)).cell? ⟨w.heap.size + 1, 0, none⟩ = some (.slice none 0 0) := cell_new _ _ _ (by simp) rfl
  have x1_1 : ((w.alloc (.cells #[.slice a rows.length c, .slice a' zs.length c'] 27)).alloc (.cells #[.slice none 0 0, .slice none 0 0, .slice none 0 0] 117)).cell? ⟨w.heap.size + 1, 1, none⟩ = some (.slice none 0 0) := cell_new _ _ _ (by simp) rfl
  have x1_2 : ((w.alloc (.cells #[.slice a rows.length c, .slice a' zs.length c'] 27)).alloc (.cells #[.slice none 0 0, .slice none 0 0, .slice none 0 0] 117)).cell? ⟨w.heap.size + 1, 2, none⟩ = some (.slice none 0 0) := cell_new _ _ _ (by simp) rfl
  have f1_0 : ((w.alloc (.cells #[.slice a rows.length c, .slice a' zs.length c'] 27)).alloc (.cells #[.slice none 0 0, .slice none 0 0, .slice none 0 0] 117)).frozen? ⟨w.heap.size + 1, 0, none⟩ = false := fro_new _ _ _ (by simp)
  have f1_1 : ((w.alloc (.cells #[.slice a rows.length c, .slice a' zs.length c'] 27)).alloc (.cells #[.slice none 0 0, .slice none 0 0, .slice none 0 0] 117)).frozen? ⟨w.heap.size + 1, 1, none⟩ = false := fro_new _ _ _ (by simp)
  have f1_2 : ((w.alloc (.cells #[.slice a rows.length c, .slice a' zs.length c'] 27)).alloc (.cells #[.slice none 0 0, .slice none 0 0, .slice none 0 0] 117)).frozen? ⟨w.heap.size + 1, 2, none⟩ = false := fro_new _ _ _ (by simp)
  replace HB0 := Lib.hid (HB0.out.alloc (by simp) (.cells #[.slice none 0 0, .slice none 0 0, .slice none 0 0] 117))
  have s0 : w.heap.size + 2 ≤ ((w.alloc (.cells #[.slice a rows.length c, .slice a' zs.length c'] 27)).alloc (.cells #[.slice none 0 0, .slice none 0 0, .slice none 0 0] 117)).heap.size := by simp
  generalize hw : ((w.alloc (.cells #[.slice a rows.length c, .slice a' zs.length c'] 27)).alloc (.cells #[.slice none 0 0, .slice none 0 0, .slice none 0 0] 117)) = w0 at *
  clear hw
  have n0_0 : w.heap.size < w0.heap.size := by omega
  have n0_1 : w.heap.size + 1 < w0.heap.size := by omega
  refine (spec_sample a rows c a' zs c' _ (Hhr.out.below HB0.out) (Hhz.out.below HB0.out) hn hk HMM.out true h1).mono ?_
  rintro e w1 ⟨rfl, hb⟩
  have s1 : w0.heap.size ≤ w1.heap.size := hb.size
  have n1_0 : w.heap.size < w1.heap.size := by omega
  have n1_1 : w.heap.size + 1 < w1.heap.size := by omega
  replace x0_0 := cell_below hb x0_0 (by omega)
  replace x0_1 := cell_below hb x0_1 (by omega)
  replace x1_0 := cell_below hb x1_0 (by omega)
  replace x1_1 := cell_below hb x1_1 (by omega)
  replace x1_2 := cell_below hb x1_2 (by omega)
  replace f1_0 := fro_below hb f1_0 (by omega)
  replace f1_1 := fro_below hb f1_1 (by omega)
  replace f1_2 := fro_below hb f1_2 (by omega)
  have HB1 := Lib.hid (HB0.out.trans (hb.mono (by omega)))
  clear hb
  go_wp2_with fail
  refine (in_any _ _ _ _ false h).mono ?_
  rintro e w' ⟨rfl, rfl⟩
  go_wp2_with fail
  refine bodyPost_ret (v := .tuple #[nil3, .bool false]) (by simp [nil3, results, Try.results111, go_sem, x1_0, x1_1, x1_2]) rfl ⟨?_, rfl⟩
  exact (((HB1.out.setCell (by simp) _).setCell (by simp) _).setCell (by simp) _)
set_option maxRecDepth 100000 in
set_option maxHeartbeats 4000000 in
theorem spec_made (a : Option Addr) (rows : List (List Int)) (c : Nat) (a' : Option Addr) (zs : List Int) (c' : Nat) (r : Int) (w : World) (hr : grid.Reads w a rows) (hz : ints.Reads .i64 w a' zs) (hn : rows.length ≤ 1048576) (hk : zs.length ≤ 1048576) (hm : ∀ r ∈ rows, r.length ≤ 1048576) (hB : rnB rows zs r = true) :
    Calls Try.prog 111 #[.agg #[.slice a rows.length c, .slice a' zs.length c'], .int .i64 r] w (PostMade (okR rows zs r) (fin rows zs r) w) := by
  have HMM := Lib.hid hm
  clear hm
  obtain ⟨hF, R, rfl, hR1, hR2⟩ := rf_of hB
  obtain ⟨hb1, hb2, hb3, hb4⟩ := (rnB_iff _ _ _).1 hB
  have HF := Lib.hid hF
  have h1 := Lib.hid hb1
  have h3 := Lib.hid (show (decide ((1 : Int) ≤ (R : Int)) && decide ((R : Int) ≤ 12)) = true from by simp; omega)
  have g0 : ((rows.length : Int) == 0) = false := by rw [beq_eq_false_iff_ne]; omega
  have s16 := hF.few
  have i00 : (0 : Int) < (rows.length : Int) := by have := hF.pos; omega
  obtain ⟨i0, hi, hz0, hz1, hz2⟩ := info_parts infoP
  obtain ⟨iI, hi', hz0', hz1', hz2'⟩ := info_parts own1.infoInt
  have HLn := Lib.hid hF.both
  obtain ⟨bl, off, rpx, rqx, hax, _, _, _, _⟩ := hr.at (k := 0) hF.pos
  subst hax
  clear hb1 hb2 hb3 hb4 hF hB
  have Hhr := Lib.hid hr
  have Hhz := Lib.hid hz
  clear hr hz
  go_enter Try.func111, Try.ntmps111
  go_wp2_with fail
  have x0_0 : (w.alloc (.cells #[.slice (some ⟨bl, off, none⟩) rows.length c, .slice a' zs.length c'] 27)).cell? ⟨w.heap.size, 0, none⟩ = some (.slice (some ⟨bl, off, none⟩) rows.length c) := cell_new _ _ _ (by simp) rfl
  have x0_1 : (w.alloc (.cells #[.slice (some ⟨bl, off, none⟩) rows.length c, .slice a' zs.length c'] 27)).cell? ⟨w.heap.size, 1, none⟩ = some (.slice a' zs.length c') := cell_new _ _ _ (by simp) rfl
  have HB0 := Lib.hid (below_alloc w (.cells #[.slice (some ⟨bl, off, none⟩) rows.length c, .slice a' zs.length c'] 27))
  replace x0_0 := cell_old (.cells #[.slice none 0 0, .slice none 0 0, .slice none 0 0] 117) x0_0
  replace x0_1 := cell_old (.cells #[.slice none 0 0, .slice none 0 0, .slice none 0 0] 117) x0_1
  have x1_0 : ((w.alloc (.cells #[.slice (some ⟨bl, off, none⟩) rows.length c, .slice a' zs.length c'] 27)).alloc (.cells #[.slice none 0 0, .slice none 0 0, .slice none 0 0] 117)).cell? ⟨w.heap.size + 1, 0, none⟩ = some (.slice none 0 0) := cell_new _ _ _ (by simp) rfl
  have x1_1 : ((w.alloc (.cells #[.slice (some ⟨bl, off, none⟩) rows.length c, .slice a' zs.length c'] 27)).alloc (.cells #[.slice none 0 0, .slice none 0 0, .slice none 0 0] 117)).cell? ⟨w.heap.size + 1, 1, none⟩ = some (.slice none 0 0) := cell_new _ _ _ (by simp) rfl
  have x1_2 : ((w.alloc (.cells #[.slice (some ⟨bl, off, none⟩) rows.length c, .slice a' zs.length c'] 27)).alloc (.cells #[.slice none 0 0, .slice none 0 0, .slice none 0 0] 117)).cell? ⟨w.heap.size + 1, 2, none⟩ = some (.slice none 0 0) := cell_new _ _ _ (by simp) rfl
  have f1_0 : ((w.alloc (.cells #[.slice (some ⟨bl, off, none⟩) rows.length c, .slice a' zs.length c'] 27)).alloc (.cells #[.slice none 0 0, .slice none 0 0, .slice none 0 0] 117)).frozen? ⟨w.heap.size + 1, 0, none⟩ = false := fro_new _ _ _ (by simp)
  have f1_1 : ((w.alloc (.cells #[.slice (some ⟨bl, off, none⟩) rows.length c, .slice a' zs.length c'] 27)).alloc (.cells #[.slice none 0 0, .slice none 0 0, .slice none 0 0] 117)).frozen? ⟨w.heap.size + 1, 1, none⟩ = false := fro_new _ _ _ (by simp)
  have f1_2 : ((w.alloc (.cells #[.slice (some ⟨bl, off, none⟩) rows.length c, .slice a' zs.length c'] 27)).alloc (.cells #[.slice none 0 0, .slice none 0 0, .slice none 0 0] 117)).frozen? ⟨w.heap.size + 1, 2, none⟩ = false := fro_new _ _ _ (by simp)
  replace HB0 := Lib.hid (HB0.out.alloc (by simp) (.cells #[.slice none 0 0, .slice none 0 0, .slice none 0 0] 117))
  have s0 : w.heap.size + 2 ≤ ((w.alloc (.cells #[.slice (some ⟨bl, off, none⟩) rows.length c, .slice a' zs.length c'] 27)).alloc (.cells #[.slice none 0 0, .slice none 0 0, .slice none 0 0] 117)).heap.size := by simp
  generalize hw : ((w.alloc (.cells #[.slice (some ⟨bl, off, none⟩) rows.length c, .slice a' zs.length c'] 27)).alloc (.cells #[.slice none 0 0, .slice none 0 0, .slice none 0 0] 117)) = w0 at *
  clear hw
  have n0_0 : w.heap.size < w0.heap.size := by omega
  have n0_1 : w.heap.size + 1 < w0.heap.size := by omega
  refine (spec_sample (some ⟨bl, off, none⟩) rows c a' zs c' _ (Hhr.out.below HB0.out) (Hhz.out.below HB0.out) hn hk HMM.out true h1).mono ?_
  rintro e w1 ⟨rfl, hb⟩
  have s1 : w0.heap.size ≤ w1.heap.size := hb.size
  have n1_0 : w.heap.size < w1.heap.size := by omega
  have n1_1 : w.heap.size + 1 < w1.heap.size := by omega
  replace x0_0 := cell_below hb x0_0 (by omega)
  replace x0_1 := cell_below hb x0_1 (by omega)
  replace x1_0 := cell_below hb x1_0 (by omega)
  replace x1_1 := cell_below hb x1_1 (by omega)
  replace x1_2 := cell_below hb x1_2 (by omega)
  replace f1_0 := fro_below hb f1_0 (by omega)
  replace f1_1 := fro_below hb f1_1 (by omega)
  replace f1_2 := fro_below hb f1_2 (by omega)
  have HB1 := Lib.hid (HB0.out.trans (hb.mono (by omega)))
  clear hb
  go_wp2_with fail
  refine (in_any _ _ _ _ true h3).mono ?_
  rintro e w' ⟨rfl, rfl⟩
  have HX := Lib.hid (show w1.cell? ⟨w.heap.size, 0, none⟩ = some (.slice (some ⟨bl, off, none⟩) rows.length c) ∧ w1.cell? ⟨w.heap.size, 1, none⟩ = some (.slice a' zs.length c') ∧ w1.cell? ⟨w.heap.size + 1, 0, none⟩ = some (.slice none 0 0) ∧ w1.cell? ⟨w.heap.size + 1, 1, none⟩ = some (.slice none 0 0) ∧ w1.cell? ⟨w.heap.size + 1, 2, none⟩ = some (.slice none 0 0) ∧ w1.frozen? ⟨w.heap.size + 1, 0, none⟩ = false ∧ w1.frozen? ⟨w.heap.size + 1, 1, none⟩ = false ∧ w1.frozen? ⟨w.heap.size + 1, 2, none⟩ = false from ⟨x0_0, x0_1, x1_0, x1_1, x1_2, f1_0, f1_1, f1_2⟩)
  obtain ⟨bl', off', rp0, rq0, hab, hbl, hc0, _, _⟩ := (Hhr.out.below HB1.out).at (k := 0) HF.out.pos
  obtain ⟨rfl, rfl⟩ : bl = bl' ∧ off = off' := by cases hab; exact ⟨rfl, rfl⟩
  rw [Nat.add_zero] at hc0
  have HBC := HB1
  have hd14 := HF.out.dim
  have HDM := Lib.hid (show (ini rows).p.1.length = (rows.getD 0 []).length from by simp [ini, init])
  have HI0 := Lib.hid (show ini rows = ⟨(List.replicate (rows.getD 0 []).length 0, 0), [], [], []⟩ from rfl)
  have HPI := Lib.hid (ini_ok rows HF.out.dim)
  generalize hr0 : rows.getD 0 [] = r0 at hc0 hd14 HI0 HDM
  have HR0 := Lib.hid hr0
  clear hr0 hab
  go_wp2_with (refine wpList_make_full _ rfl _ _ 23 rfl w1.heap.size 3 iI (.int .i64 0) 1 Try.underlying23 hi' hz0' hz1' .i64 .i64 _ _ r0.length rfl rfl rfl rfl (by rw [hz2']; omega) (by unfold maxLen; omega) (Nat.le_refl _) ?_; intro w3 hown1 hgrow1; refine Hid.out ?_)
  refine Lib.hid ?_
  have hb3 : Below w1.heap.size w1 w3 := (Below.refl _ _).grown hgrow1 (Nat.le_refl _) (by simp)
  rw [show (Value.int .i64 0).cells = #[Value.int .i64 0] from rfl, Nat.mul_one, toList_madeCells_one] at hown1
  have hlt3 := hown1.lt w1.heap.size rfl
  have HW3 := Lib.hid hown1
  have HB3 := Lib.hid hb3
  clear hown1 hgrow1 hb3 hc0 x0_0 x0_1 x1_0 x1_1 x1_2 f1_0 f1_1 f1_2
  go_wp2_with fail
  obtain ⟨B, hB⟩ : ∃ B, B = w3.heap.size + 2 := ⟨_, rfl⟩
  have HBJ := Lib.hid (((HB3.out.alloc (by omega) (.cells #[.slice (some ⟨w1.heap.size, 0, none⟩) r0.length r0.length, .int .i64 0] 46)).alloc (by simp; omega) (.cells #[] 3)).alloc (by simp; omega) (.cells #[.slice (some ⟨w3.heap.size, 0, none⟩) 1 1, .slice (some ⟨w3.heap.size + 1, 0, none⟩) 0 0, .slice none 0 0] 117))
  have HST := Lib.hid (show ∃ (v1 v2 v3 v : Value) (vs : List Value), vs.length = (ini rows).pl.length ∧ ((((w3.alloc (.cells #[.slice (some ⟨w1.heap.size, 0, none⟩) r0.length r0.length, .int .i64 0] 46)).alloc (.cells #[] 3)).alloc (.cells #[.slice (some ⟨w3.heap.size, 0, none⟩) 1 1, .slice (some ⟨w3.heap.size + 1, 0, none⟩) 0 0, .slice none 0 0] 117)).cell? ⟨B, 0, none⟩ = some (v1) ∧ (((w3.alloc (.cells #[.slice (some ⟨w1.heap.size, 0, none⟩) r0.length r0.length, .int .i64 0] 46)).alloc (.cells #[] 3)).alloc (.cells #[.slice (some ⟨w3.heap.size, 0, none⟩) 1 1, .slice (some ⟨w3.heap.size + 1, 0, none⟩) 0 0, .slice none 0 0] 117)).cell? ⟨B, 1, none⟩ = some (v2) ∧ (((w3.alloc (.cells #[.slice (some ⟨w1.heap.size, 0, none⟩) r0.length r0.length, .int .i64 0] 46)).alloc (.cells #[] 3)).alloc (.cells #[.slice (some ⟨w3.heap.size, 0, none⟩) 1 1, .slice (some ⟨w3.heap.size + 1, 0, none⟩) 0 0, .slice none 0 0] 117)).cell? ⟨B, 2, none⟩ = some (v3) ∧ (((w3.alloc (.cells #[.slice (some ⟨w1.heap.size, 0, none⟩) r0.length r0.length, .int .i64 0] 46)).alloc (.cells #[] 3)).alloc (.cells #[.slice (some ⟨w3.heap.size, 0, none⟩) 1 1, .slice (some ⟨w3.heap.size + 1, 0, none⟩) 0 0, .slice none 0 0] 117)).frozen? ⟨B, 0, none⟩ = false ∧ (((w3.alloc (.cells #[.slice (some ⟨w1.heap.size, 0, none⟩) r0.length r0.length, .int .i64 0] 46)).alloc (.cells #[] 3)).alloc (.cells #[.slice (some ⟨w3.heap.size, 0, none⟩) 1 1, .slice (some ⟨w3.heap.size + 1, 0, none⟩) 0 0, .slice none 0 0] 117)).frozen? ⟨B, 1, none⟩ = false ∧ (((w3.alloc (.cells #[.slice (some ⟨w1.heap.size, 0, none⟩) r0.length r0.length, .int .i64 0] 46)).alloc (.cells #[] 3)).alloc (.cells #[.slice (some ⟨w3.heap.size, 0, none⟩) 1 1, .slice (some ⟨w3.heap.size + 1, 0, none⟩) 0 0, .slice none 0 0] 117)).frozen? ⟨B, 2, none⟩ = false) ∧ RM w1.heap.size B (((w3.alloc (.cells #[.slice (some ⟨w1.heap.size, 0, none⟩) r0.length r0.length, .int .i64 0] 46)).alloc (.cells #[] 3)).alloc (.cells #[.slice (some ⟨w3.heap.size, 0, none⟩) 1 1, .slice (some ⟨w3.heap.size + 1, 0, none⟩) 0 0, .slice none 0 0] 117)) v1 v2 v3 (vs ++ [v]) ((ini rows).pl ++ [(ini rows).p]) (ini rows).tr (ini rows).mi from by
    rw [HI0.out]
    refine ⟨(.slice (some ⟨w3.heap.size, 0, none⟩) 1 1), (.slice (some ⟨w3.heap.size + 1, 0, none⟩) 0 0), (.slice none 0 0), .slice (some ⟨w1.heap.size, 0, none⟩) r0.length r0.length, [], rfl, ⟨cell_new _ _ _ (by simp [hB]) rfl, cell_new _ _ _ (by simp [hB]) rfl, cell_new _ _ _ (by simp [hB]) rfl, fro_new _ _ _ (by simp [hB]), fro_new _ _ _ (by simp [hB]), fro_new _ _ _ (by simp [hB])⟩, rfl, ?_, ?_⟩
    · intro x hx
      simp only [itW, List.nil_append, List.zip_cons_cons, List.zip_nil_right, List.map_cons, List.map_nil, List.mem_cons, List.not_mem_nil, or_false] at hx
      rcases hx with rfl | rfl | rfl | rfl
      · refine ⟨?_, fun g e => by (have h9 : w3.heap.size = g := by simpa [itP, Value.ownBlock] using e); omega⟩
        have h1 : (w3.alloc (.cells #[.slice (some ⟨w1.heap.size, 0, none⟩) r0.length r0.length, .int .i64 0] 46)).ownsRow w1.heap.size 46 2 (.slice (some ⟨w3.heap.size, 0, none⟩) 1 1) 1 [.slice (some ⟨w1.heap.size, 0, none⟩) r0.length r0.length, .int .i64 0] := ⟨by simp, .inr ⟨w3.heap.size, 1, #[.slice (some ⟨w1.heap.size, 0, none⟩) r0.length r0.length, .int .i64 0], rfl, by omega, heap_alloc_new w3 _, Nat.le_refl _, by unfold maxLen; omega, by simp, by simp⟩⟩
        have := (h1.alloc (.cells #[] 3)).alloc (.cells #[.slice (some ⟨w3.heap.size, 0, none⟩) 1 1, .slice (some ⟨w3.heap.size + 1, 0, none⟩) 0 0, .slice none 0 0] 117)
        simpa [itP, cellsP] using this
      · refine ⟨?_, fun g e => by (have h9 : w3.heap.size + 1 = g := by simpa [itI, Value.ownBlock] using e); omega⟩
        have := (World.ownsRow_made (base := w1.heap.size) (e := 3) (size := 1) (w3.alloc (.cells #[.slice (some ⟨w1.heap.size, 0, none⟩) r0.length r0.length, .int .i64 0] 46)) #[] 0 (by simp; omega) (by unfold maxLen; omega) rfl).alloc (.cells #[.slice (some ⟨w3.heap.size, 0, none⟩) 1 1, .slice (some ⟨w3.heap.size + 1, 0, none⟩) 0 0, .slice none 0 0] 117)
        simpa [itI] using this
      · exact ⟨World.ownsRow_nil _ _ _ _, fun g e => by simp [itI, Value.ownBlock] at e⟩
      · refine ⟨?_, fun g e => by (have h9 : w1.heap.size = g := by simpa [itI, Value.ownBlock] using e); omega⟩
        have := ((HW3.out.alloc (.cells #[.slice (some ⟨w1.heap.size, 0, none⟩) r0.length r0.length, .int .i64 0] 46)).alloc (.cells #[] 3)).alloc (.cells #[.slice (some ⟨w3.heap.size, 0, none⟩) 1 1, .slice (some ⟨w3.heap.size + 1, 0, none⟩) 0 0, .slice none 0 0] 117)
        simpa [itI] using this
    · simp only [itW, List.nil_append, List.zip_cons_cons, List.zip_nil_right, List.map_cons, List.map_nil]
      refine List.pairwise_cons.2 ⟨fun x hx g e e2 => ?_, List.pairwise_cons.2 ⟨fun x hx g e e2 => ?_, List.pairwise_cons.2 ⟨fun x hx g e e2 => ?_, by simp⟩⟩⟩
      · have h9 : w3.heap.size = g := by simpa [itP, Value.ownBlock] using e
        simp only [List.mem_cons, List.not_mem_nil, or_false] at hx
        rcases hx with rfl | rfl | rfl <;> simp [itI, Value.ownBlock] at e2 <;> omega
      · have h9 : w3.heap.size + 1 = g := by simpa [itI, Value.ownBlock] using e
        simp only [List.mem_cons, List.not_mem_nil, or_false] at hx
        rcases hx with rfl | rfl <;> simp [itI, Value.ownBlock] at e2 <;> omega
      · simp [itI, Value.ownBlock] at e)
  have hBo : B < (((w3.alloc (.cells #[.slice (some ⟨w1.heap.size, 0, none⟩) r0.length r0.length, .int .i64 0] 46)).alloc (.cells #[] 3)).alloc (.cells #[.slice (some ⟨w3.heap.size, 0, none⟩) 1 1, .slice (some ⟨w3.heap.size + 1, 0, none⟩) 0 0, .slice none 0 0] 117)).heap.size := by rw [hB]; simp
  have hCB : w1.heap.size ≤ B := by omega
  rw [show w3.heap.size + 1 + 1 = B from by rw [hB]]
  clear HW3 HI0
  have HBo := Lib.hid hBo
  generalize (((w3.alloc (.cells #[.slice (some ⟨w1.heap.size, 0, none⟩) r0.length r0.length, .int .i64 0] 46)).alloc (.cells #[] 3)).alloc (.cells #[.slice (some ⟨w3.heap.size, 0, none⟩) 1 1, .slice (some ⟨w3.heap.size + 1, 0, none⟩) 0 0, .slice none 0 0] 117)) = w9 at *
  have HBe := Lib.hid hB
  clear hB hBo hlt3
  have HRB := Lib.hid (show (ini rows).tr.length ≤ 0 ∧ (ini rows).pl.length ≤ 0 ∧ (ini rows).mi.length ≤ 0 ∧ (ini rows).p.1.length = r0.length from ⟨Nat.le_refl _, Nat.le_refl _, Nat.le_refl _, HDM.out⟩)
  go_loopw [7] (fun i wr => ∃ (j : Nat) (st : Sta), j ≤ R ∧ i = .int .i64 j ∧ Hid (okR rows zs R = okRun rows zs (R - j) st ∧ fin rows zs R = endRun rows zs (R - j) st) ∧ Hid (okP st = true) ∧ Hid (st.tr.length ≤ 16 * j ∧ st.pl.length ≤ 16 * j ∧ st.mi.length ≤ j ∧ st.p.1.length = r0.length) ∧ Hid (∃ (v1 v2 v3 v : Value) (vs : List Value), vs.length = st.pl.length ∧ (wr.cell? ⟨B, 0, none⟩ = some (v1) ∧ wr.cell? ⟨B, 1, none⟩ = some (v2) ∧ wr.cell? ⟨B, 2, none⟩ = some (v3) ∧ wr.frozen? ⟨B, 0, none⟩ = false ∧ wr.frozen? ⟨B, 1, none⟩ = false ∧ wr.frozen? ⟨B, 2, none⟩ = false) ∧ RM w1.heap.size B wr v1 v2 v3 (vs ++ [v]) (st.pl ++ [st.p]) st.tr st.mi) ∧ Hid (Below w1.heap.size w1 wr) ∧ Hid (B < wr.heap.size)) (fun i _ => R - (intOf i).toNat)
  case atStart => exact ⟨0, ini rows, Nat.zero_le _, rfl, Lib.hid ⟨rfl, rfl⟩, HPI, HRB, HST, HBJ, HBo⟩
  case round =>
    obtain ⟨j, st, hj, rfl, HEQ, HPS, HBD, HS, HBl, HBs⟩ := hrel
    clear HST HBJ HBo HRB HPI
    have hbs := HBs.out
    have hsz := HBl.out.size
    by_cases hlj : j < R
    · have j1 : (j : Int) < (R : Int) := by omega
      have HS0 := HS
      have x0_0 := cell_below HBl.out HX.out.1 (by omega)
      go_wp2_with fail
      clear x0_0
      go_loopw [8, 9] (fun m i wr => ∃ (k : Nat), k ≤ rows.length ∧ m = .int .i64 (cn rows zs st k) ∧ i = .int .i64 k ∧ Hid (∀ q, q < k → okP (inn rows zs st (q + 1)) = true) ∧ Hid (∃ (v1 v2 v3 v : Value) (vs : List Value), vs.length = (inn rows zs st k).pl.length ∧ (wr.cell? ⟨B, 0, none⟩ = some (v1) ∧ wr.cell? ⟨B, 1, none⟩ = some (v2) ∧ wr.cell? ⟨B, 2, none⟩ = some (v3) ∧ wr.frozen? ⟨B, 0, none⟩ = false ∧ wr.frozen? ⟨B, 1, none⟩ = false ∧ wr.frozen? ⟨B, 2, none⟩ = false) ∧ RM w1.heap.size B wr v1 v2 v3 (vs ++ [v]) ((inn rows zs st k).pl ++ [(inn rows zs st k).p]) (inn rows zs st k).tr (inn rows zs st k).mi) ∧ Hid (Below w1.heap.size w1 wr) ∧ Hid (B < wr.heap.size)) (fun _ i _ => rows.length - (intOf i).toNat)
      case atStart => exact ⟨0, Nat.zero_le _, rfl, rfl, Lib.hid (fun q hq => by omega), HS0, HBl, HBs⟩
      case round =>
        obtain ⟨k, hk', rfl, rfl, HOK, HQ, HBq, HBz⟩ := hrel
        clear HS HS0
        obtain ⟨v1, v2, v3, v, vs, hvl, hq, hrm⟩ := HQ.out
        clear HQ
        have hbz := HBz.out
        have hbel := HBq.out
        have hsz2 := hbel.size
        have hcn := cn_le rows zs st k
        have htr := tr_len rows zs st k
        have hmi := inn_mi rows zs st k
        have hbd := HBD.out
        have HPK := Lib.hid (show okP (inn rows zs st k) = true from by
          cases k with
          | zero => exact HPS.out
          | succ k => exact HOK.out k (by omega))
        have HLE := Lib.hid (show (inn rows zs st k).p.1.length = (rows.getD 0 []).length from by rw [inn_len, hbd.2.2.2, HR0.out])
        by_cases hlt : k < rows.length
        · have HNO := Lib.hid (show okP (inn rows zs st (k + 1)) = false → okR rows zs (R : Int) = false from fun h => by
            rw [HEQ.out.1, show R - j = (R - (j + 1)) + 1 from by omega]
            exact okRun_no (okTo_no hlt h))
          cases hsm : same rows zs (inn rows zs st k) k
          · replace HNO := Lib.hid (show okP (turned rows zs (inn rows zs st k) k) = false → okR rows zs (R : Int) = false from fun h => HNO.out (by rw [(inn_turn hsm).1]; exact h))
            obtain ⟨bl', off', rp, rq, hab, hbl', hc, hpq, hrow⟩ := (Hhr.out.below HBC.out).at hlt
            obtain ⟨rfl, rfl⟩ : bl = bl' ∧ off = off' := by cases hab; exact ⟨rfl, rfl⟩
            obtain ⟨lb, lo', hlb, hll, hlc⟩ := (Hhz.out.below HBC.out).at (k := k) (by have := HLn.out; omega)
            subst hlb
            have HFt := Lib.hid (st_fit HF.out HPK.out HLE.out k hlt)
            obtain ⟨g1, cap1, hv1, hg1B, hlo1, hg1w, cp0, cp1, hov⟩ := RM.last hrm hvl
            obtain ⟨p, q, hvv, _, _, _⟩ := hov.slice
            subst hv1
            have x0_0 := cell_below hbel HX.out.1 (by omega)
            have x0_1 := cell_below hbel HX.out.2.1 (by omega)
            replace hc := cell_below hbel hc (by omega)
            replace hlc := cell_below hbel hlc (by omega)
            have HRD := Lib.hid (show ints.Reads .i64 wr rp (rows.getD k []) from hrow.below hbel)
            have HRM := Lib.hid hrm
            have HOV := Lib.hid hov
            have HQB := Lib.hid hq
            have y0 := hq.1
            have i1 : (0 : Int) ≤ (k : Int) := by omega
            have i2 : (k : Int) < (rows.length : Int) := by omega
            have i3 : (k : Int) < (zs.length : Int) := by have := HLn.out; omega
            have htrb : (inn rows zs st k).tr.length ≤ 16 * j + 16 := by have := hbd.1; omega
            have hplb : (inn rows zs st k).pl.length ≤ 16 * j + 16 := by have := hbd.2.1; omega
            clear hrow hpq hab hov hq hrm htr hmi
            have HIN := Lib.hid (inn_turn hsm)
            have HTU := Lib.hid (show turned rows zs (inn rows zs st k) k = ⟨(added (inn rows zs st k).p.1 (rows.getD k []) (zs.getD k 0), (inn rows zs st k).p.2 - zs.getD k 0), (inn rows zs st k).mi, (inn rows zs st k).tr ++ [(k : Int)], (inn rows zs st k).pl ++ [(inn rows zs st k).p]⟩ from rfl)
            have HSD := Lib.hid (show side (inn rows zs st k).p.1 (inn rows zs st k).p.2 (rows.getD k []) ≠ zs.getD k 0 from by simpa [same] using hsm)
            clear hsm
            generalize inn rows zs st k = sn at *
            generalize cn rows zs st k = cnt at *
            generalize turned rows zs sn k = tn at *
            obtain ⟨⟨ws, b⟩, smi, str, spl⟩ := sn
            dsimp only at *
            subst hvv
            generalize rows.getD k [] = r at *
            generalize zs.getD k 0 = y at *
            generalize hm9 : spl.length = m at *
            have HM := Lib.hid hm9
            clear hm9
            rw [Nat.mul_comm] at cp0 cp1
            have e1 : IntKind.i64.wrap (m : Int) = (m : Int) := IntWalk.i64_in _ (by omega)
            have i5 : (0 : Int) ≤ (m : Int) := by omega
            have i6 : (m : Int) < (m : Int) + 1 := by omega
            have hle := HFt.out.le
            have hpos := HFt.out.pos
            have HT := Lib.hid (show ∀ wa : World, (wa.cell? ⟨w.heap.size, 0, none⟩ = some (.slice (some ⟨bl, off, none⟩) rows.length c) ∧ wa.cell? ⟨w.heap.size, 1, none⟩ = some (.slice (some ⟨lb, lo', none⟩) zs.length c') ∧ wa.cell? ⟨bl, off + k, none⟩ = some (.slice rp r.length rq) ∧ wa.cell? ⟨lb, lo' + k, none⟩ = some (.int .i64 y) ∧ wa.cell? ⟨B, 0, none⟩ = some (.slice (some ⟨g1, 0, none⟩) (m + 1) cap1) ∧ wa.cell? ⟨g1, m * 2, none⟩ = some (.slice p ws.length q) ∧ wa.cell? ⟨g1, m * 2 + 1, none⟩ = some (.int .i64 b) ∧ Below wr.heap.size wr wa) → Calls Try.prog 106 #[.agg #[.slice p ws.length q, .int .i64 b], .slice rp r.length rq, .int .i64 y] wa (fun e w' => ∃ (p1 : Option Addr) (q1 : Nat), e = .returned (.tuple #[.agg #[.slice p1 (added ws r y).length q1, .int .i64 (b - y)], .bool true]) ∧ OwnI wa.heap.size w'.heap.size w' (.slice p1 (added ws r y).length q1) (added ws r y) ∧ Below wa.heap.size wa w' ∧ w'.cell? ⟨w.heap.size, 0, none⟩ = some (.slice (some ⟨bl, off, none⟩) rows.length c) ∧ w'.cell? ⟨w.heap.size, 1, none⟩ = some (.slice (some ⟨lb, lo', none⟩) zs.length c') ∧ w'.cell? ⟨bl, off + k, none⟩ = some (.slice rp r.length rq) ∧ w'.cell? ⟨lb, lo' + k, none⟩ = some (.int .i64 y) ∧ w'.cell? ⟨B, 0, none⟩ = some (.slice (some ⟨g1, 0, none⟩) (m + 1) cap1) ∧ w'.cell? ⟨g1, m * 2, none⟩ = some (.slice p ws.length q) ∧ w'.cell? ⟨g1, m * 2 + 1, none⟩ = some (.int .i64 b) ∧ Below wr.heap.size wr w') from fun wa hS => by
              refine (step.spec_turned p ws q b rp r rq y wa (HOV.out.reads.below hS.2.2.2.2.2.2.2) (HRD.out.below hS.2.2.2.2.2.2.2) HFt.out HSD.out).mono ?_
              rintro e w' ⟨v', rfl, ho, hb⟩
              obtain ⟨p1, q1, rfl, _, _, _⟩ := ho.slice
              exact ⟨p1, q1, rfl, ho, hb, cell_below hb hS.1 (by have := hS.2.2.2.2.2.2.2.size; omega), cell_below hb hS.2.1 (by have := hS.2.2.2.2.2.2.2.size; omega), cell_below hb hS.2.2.1 (by have := hS.2.2.2.2.2.2.2.size; omega), cell_below hb hS.2.2.2.1 (by have := hS.2.2.2.2.2.2.2.size; omega), cell_below hb hS.2.2.2.2.1 (by have := hS.2.2.2.2.2.2.2.size; omega), cell_below hb hS.2.2.2.2.2.1 (by have := hS.2.2.2.2.2.2.2.size; omega), cell_below hb hS.2.2.2.2.2.2.1 (by have := hS.2.2.2.2.2.2.2.size; omega), hS.2.2.2.2.2.2.2.trans (hb.mono hS.2.2.2.2.2.2.2.size)⟩)
            have HQL := Lib.hid (show ∀ (W W3 : World) (o : Option Nat) (x1 x2 x3 : Value), (W.cell? ⟨B, 0, none⟩ = some (x1) ∧ W.cell? ⟨B, 1, none⟩ = some (x2) ∧ W.cell? ⟨B, 2, none⟩ = some (x3) ∧ W.frozen? ⟨B, 0, none⟩ = false ∧ W.frozen? ⟨B, 1, none⟩ = false ∧ W.frozen? ⟨B, 2, none⟩ = false) → W.grownBy W3 o → (∀ g, o = some g → g ≠ B) → B < W.heap.size → (W3.cell? ⟨B, 0, none⟩ = some (x1) ∧ W3.cell? ⟨B, 1, none⟩ = some (x2) ∧ W3.cell? ⟨B, 2, none⟩ = some (x3) ∧ W3.frozen? ⟨B, 0, none⟩ = false ∧ W3.frozen? ⟨B, 1, none⟩ = false ∧ W3.frozen? ⟨B, 2, none⟩ = false) from fun W W3 o x1 x2 x3 hQ hg ho hB => by
              have nf : ∀ q, some q = o → q = B → False := fun q e h => ho q e.symm h
              exact ⟨hg.cell hQ.1 (fun e => nf _ e rfl), hg.cell hQ.2.1 (fun e => nf _ e rfl), hg.cell hQ.2.2.1 (fun e => nf _ e rfl), (hg.frozen_far ⟨B, 0, none⟩ hB (fun e => nf _ e rfl)).trans hQ.2.2.2.1, (hg.frozen_far ⟨B, 1, none⟩ hB (fun e => nf _ e rfl)).trans hQ.2.2.2.2.1, (hg.frozen_far ⟨B, 2, none⟩ hB (fun e => nf _ e rfl)).trans hQ.2.2.2.2.2⟩)
            go_wp2_with fail
            refine wp_region_noPanic ?_
            refine wp_region_held_drew (S := fun w' => w'.cell? ⟨w.heap.size, 0, none⟩ = some (.slice (some ⟨bl, off, none⟩) rows.length c) ∧ w'.cell? ⟨w.heap.size, 1, none⟩ = some (.slice (some ⟨lb, lo', none⟩) zs.length c') ∧ w'.cell? ⟨bl, off + k, none⟩ = some (.slice rp r.length rq) ∧ w'.cell? ⟨lb, lo' + k, none⟩ = some (.int .i64 y) ∧ w'.cell? ⟨B, 0, none⟩ = some (.slice (some ⟨g1, 0, none⟩) (m + 1) cap1) ∧ w'.cell? ⟨g1, m * 2, none⟩ = some (.slice p ws.length q) ∧ w'.cell? ⟨g1, m * 2 + 1, none⟩ = some (.int .i64 b) ∧ Below wr.heap.size wr w') (by kernel_rfl) ?_ (fun hHeld => ?_)
            · exact ⟨x0_0, x0_1, hc, hlc, y0, cp0, cp1, (Below.refl _ _).drew⟩
            refine wpAnyH_take (i := 0) (v := ?_) rfl (by kernel_rfl) (by kernel_rfl) (by kernel_rfl) (fun _ _ _ h => h) (Or.inl ⟨by rfl, ?_⟩) (by assumption) ?_
            rotate_left
            · intro w9 hSw; (try dsimp only at hSw); go_simp; try with_reducible rfl
            try simp only [List.getElem_toArray, List.getElem_cons_succ, List.getElem_cons_zero, Act.put, List.setIfInBounds_toArray, List.set_cons_zero, List.set_cons_succ]
            refine wpAnyH_take (i := 1) (v := ?_) rfl (by kernel_rfl) (by kernel_rfl) (by kernel_rfl) (fun _ _ _ h => h) (Or.inl ⟨by rfl, ?_⟩) (by assumption) ?_
            rotate_left
            · intro w9 hSw; (try dsimp only at hSw); go_simp; try with_reducible rfl
            try simp only [List.getElem_toArray, List.getElem_cons_succ, List.getElem_cons_zero, Act.put, List.setIfInBounds_toArray, List.set_cons_zero, List.set_cons_succ]
            refine wpAnyH_take (i := 2) (v := ?_) rfl (by kernel_rfl) (by kernel_rfl) (by kernel_rfl) (fun _ _ _ h => h) (Or.inl ⟨by rfl, ?_⟩) (by assumption) ?_
            rotate_left
            · intro w9 hSw; (try dsimp only at hSw); go_simp; try with_reducible rfl
            try simp only [List.getElem_toArray, List.getElem_cons_succ, List.getElem_cons_zero, Act.put, List.setIfInBounds_toArray, List.set_cons_zero, List.set_cons_succ]
            refine wpAnyH_take (i := 3) (v := ?_) rfl (by kernel_rfl) (by kernel_rfl) (by kernel_rfl) (fun _ _ _ h => h) (Or.inl ⟨by rfl, ?_⟩) (by assumption) ?_
            rotate_left
            · intro w9 hSw; (try dsimp only at hSw); go_simp; try with_reducible rfl
            try simp only [List.getElem_toArray, List.getElem_cons_succ, List.getElem_cons_zero, Act.put, List.setIfInBounds_toArray, List.set_cons_zero, List.set_cons_succ]
            refine wpAnyH_take (i := 4) (v := ?_) rfl (by kernel_rfl) (by kernel_rfl) (by kernel_rfl) (fun _ _ _ h => h) (Or.inl ⟨by rfl, ?_⟩) (by assumption) ?_
            rotate_left
            · intro w9 hSw; (try dsimp only at hSw); go_simp; try with_reducible rfl
            try simp only [List.getElem_toArray, List.getElem_cons_succ, List.getElem_cons_zero, Act.put, List.setIfInBounds_toArray, List.set_cons_zero, List.set_cons_succ]
            refine wpAnyH_take (i := 5) (v := ?_) rfl (by kernel_rfl) (by kernel_rfl) (by kernel_rfl) (fun _ _ _ h => h) (Or.inl ⟨by rfl, ?_⟩) (by assumption) ?_
            rotate_left
            · intro w9 hSw; (try dsimp only at hSw); go_simp; try with_reducible rfl
            try simp only [List.getElem_toArray, List.getElem_cons_succ, List.getElem_cons_zero, Act.put, List.setIfInBounds_toArray, List.set_cons_zero, List.set_cons_succ]
            refine wpAnyH_take (i := 6) (v := ?_) rfl (by kernel_rfl) (by kernel_rfl) (by kernel_rfl) (fun _ _ _ h => h) (Or.inl ⟨by rfl, ?_⟩) (by assumption) ?_
            rotate_left
            · intro w9 hSw; (try dsimp only at hSw); go_simp; try with_reducible rfl
            try simp only [List.getElem_toArray, List.getElem_cons_succ, List.getElem_cons_zero, Act.put, List.setIfInBounds_toArray, List.set_cons_zero, List.set_cons_succ]
            refine wpAnyH_take (i := 7) (v := ?_) rfl (by kernel_rfl) (by kernel_rfl) (by kernel_rfl) (fun _ _ _ h => h) (Or.inl ⟨by rfl, ?_⟩) (by assumption) ?_
            rotate_left
            · intro w9 hSw; (try dsimp only at hSw); go_simp; try with_reducible rfl
            try simp only [List.getElem_toArray, List.getElem_cons_succ, List.getElem_cons_zero, Act.put, List.setIfInBounds_toArray, List.set_cons_zero, List.set_cons_succ]
            refine wpAnyH_take (i := 8) (v := ?_) rfl (by kernel_rfl) (by kernel_rfl) (by kernel_rfl) (fun _ _ _ h => h) (Or.inl ⟨by rfl, ?_⟩) (by assumption) ?_
            rotate_left
            · intro w9 hSw; (try dsimp only at hSw); go_simp; try with_reducible rfl
            try simp only [List.getElem_toArray, List.getElem_cons_succ, List.getElem_cons_zero, Act.put, List.setIfInBounds_toArray, List.set_cons_zero, List.set_cons_succ]
            refine wpAnyH_take (i := 9) (v := ?_) rfl (by kernel_rfl) (by kernel_rfl) (by kernel_rfl) (fun _ _ _ h => h) (Or.inl ⟨by rfl, ?_⟩) (by assumption) ?_
            rotate_left
            · intro w9 hSw; (try dsimp only at hSw); go_simp; try with_reducible rfl
            try simp only [List.getElem_toArray, List.getElem_cons_succ, List.getElem_cons_zero, Act.put, List.setIfInBounds_toArray, List.set_cons_zero, List.set_cons_succ]
            refine wpAnyH_take (i := 10) (v := ?_) rfl (by kernel_rfl) (by kernel_rfl) (by kernel_rfl) (fun _ _ _ h => h) (Or.inl ⟨by rfl, ?_⟩) (by assumption) ?_
            rotate_left
            · intro w9 hSw; (try dsimp only at hSw); go_simp; try with_reducible rfl
            try simp only [List.getElem_toArray, List.getElem_cons_succ, List.getElem_cons_zero, Act.put, List.setIfInBounds_toArray, List.set_cons_zero, List.set_cons_succ]
            refine wpAnyH_take (i := 11) (v := ?_) rfl (by kernel_rfl) (by kernel_rfl) (by kernel_rfl) (fun _ _ _ h => h) (Or.inl ⟨by rfl, ?_⟩) (by assumption) ?_
            rotate_left
            · intro w9 hSw; (try dsimp only at hSw); go_simp; try with_reducible rfl
            try simp only [List.getElem_toArray, List.getElem_cons_succ, List.getElem_cons_zero, Act.put, List.setIfInBounds_toArray, List.set_cons_zero, List.set_cons_succ]
            refine wpAnyH_take (i := 12) (v := ?_) rfl (by kernel_rfl) (by kernel_rfl) (by kernel_rfl) (fun _ _ _ h => h) (Or.inl ⟨by rfl, ?_⟩) (by assumption) ?_
            rotate_left
            · intro w9 hSw; (try dsimp only at hSw); go_simp; try with_reducible rfl
            try simp only [List.getElem_toArray, List.getElem_cons_succ, List.getElem_cons_zero, Act.put, List.setIfInBounds_toArray, List.set_cons_zero, List.set_cons_succ]
            refine wpAnyH_take (i := 13) (v := ?_) rfl (by kernel_rfl) (by kernel_rfl) (by kernel_rfl) (fun _ _ _ h => h) (Or.inl ⟨by rfl, ?_⟩) (by assumption) ?_
            rotate_left
            · intro w9 hSw; (try dsimp only at hSw); go_simp; try with_reducible rfl
            try simp only [List.getElem_toArray, List.getElem_cons_succ, List.getElem_cons_zero, Act.put, List.setIfInBounds_toArray, List.set_cons_zero, List.set_cons_succ]
            refine wpAnyH_take (i := 14) (v := ?_) rfl (by kernel_rfl) (by kernel_rfl) (by kernel_rfl) (fun _ _ _ h => h) (Or.inl ⟨by rfl, ?_⟩) (by assumption) ?_
            rotate_left
            · intro w9 hSw; (try dsimp only at hSw); go_simp; try with_reducible rfl
            try simp only [List.getElem_toArray, List.getElem_cons_succ, List.getElem_cons_zero, Act.put, List.setIfInBounds_toArray, List.set_cons_zero, List.set_cons_succ]
            refine wpAnyH_take (i := 15) (v := ?_) rfl (by kernel_rfl) (by kernel_rfl) (by kernel_rfl) (fun _ _ _ h => h) (Or.inl ⟨by rfl, ?_⟩) (by assumption) ?_
            rotate_left
            · intro w9 hSw; (try dsimp only at hSw); go_simp; try with_reducible rfl
            try simp only [List.getElem_toArray, List.getElem_cons_succ, List.getElem_cons_zero, Act.put, List.setIfInBounds_toArray, List.set_cons_zero, List.set_cons_succ]
            refine wpAnyH_take (i := 16) (v := ?_) rfl (by kernel_rfl) (by kernel_rfl) (by kernel_rfl) (fun _ _ _ h => h) (Or.inl ⟨by rfl, ?_⟩) (by assumption) ?_
            rotate_left
            · intro w9 hSw; (try dsimp only at hSw); go_simp; try with_reducible rfl
            try simp only [List.getElem_toArray, List.getElem_cons_succ, List.getElem_cons_zero, Act.put, List.setIfInBounds_toArray, List.set_cons_zero, List.set_cons_succ]
            refine wpAnyH_take (i := 17) (v := ?_) rfl (by kernel_rfl) (by kernel_rfl) (by kernel_rfl) (fun _ _ _ h => h) (Or.inl ⟨by rfl, ?_⟩) (by assumption) ?_
            rotate_left
            · intro w9 hSw; (try dsimp only at hSw); go_simp; try with_reducible rfl
            try simp only [List.getElem_toArray, List.getElem_cons_succ, List.getElem_cons_zero, Act.put, List.setIfInBounds_toArray, List.set_cons_zero, List.set_cons_succ]
            refine wpAnyH_ready (rs := [18, 22]) (by kernel_rfl) (by simp) ?_
            refine AllReadyH.cons rfl (fun K hK => ?_) ?_
            · go_simp
              refine Calls.mono (HT.out _ ?_) ?_
              · exact hHeld
              clear hHeld
              rintro e va ⟨p1, q1, rfl, hoN, hbb, hbx⟩
              have hbxs : wr.heap.size ≤ va.heap.size := hbx.2.2.2.2.2.2.2.size
              refine hK.out _ _ ?_ (fun hHeld => ?_)
              · exact hbx
              clear hK K
              try simp only [List.getElem_toArray, List.getElem_cons_succ, List.getElem_cons_zero, Act.put, List.setIfInBounds_toArray, List.set_cons_zero, List.set_cons_succ]
              refine wpAnyH_take (i := 19) (v := ?_) rfl (by kernel_rfl) (by kernel_rfl) (by kernel_rfl) (fun _ _ _ h => h) (Or.inl ⟨by rfl, ?_⟩) (by assumption) ?_
              rotate_left
              · intro w9 hSw; (try dsimp only at hSw); go_simp; try with_reducible rfl
              try simp only [List.getElem_toArray, List.getElem_cons_succ, List.getElem_cons_zero, Act.put, List.setIfInBounds_toArray, List.set_cons_zero, List.set_cons_succ]
              refine wpAnyH_take (i := 20) (v := ?_) rfl (by kernel_rfl) (by kernel_rfl) (by kernel_rfl) (fun _ _ _ h => h) (Or.inl ⟨by rfl, ?_⟩) (by assumption) ?_
              rotate_left
              · intro w9 hSw; (try dsimp only at hSw); go_simp; try with_reducible rfl
              try simp only [List.getElem_toArray, List.getElem_cons_succ, List.getElem_cons_zero, Act.put, List.setIfInBounds_toArray, List.set_cons_zero, List.set_cons_succ]
              refine wpAnyH_take (i := 21) (v := ?_) rfl (by kernel_rfl) (by kernel_rfl) (by kernel_rfl) (fun _ _ _ h => h) (Or.inl ⟨by rfl, ?_⟩) (by assumption) ?_
              rotate_left
              · intro w9 hSw; (try dsimp only at hSw); go_simp; try with_reducible rfl
              try simp only [List.getElem_toArray, List.getElem_cons_succ, List.getElem_cons_zero, Act.put, List.setIfInBounds_toArray, List.set_cons_zero, List.set_cons_succ]
              refine wpAnyH_ready (rs := [22]) (by kernel_rfl) (by simp) ?_
              refine AllReadyH.cons rfl (fun K hK => ?_) ?_
              · go_simp
                refine hK.out _ _ ?_ (fun hHeld => ?_)
                · exact ⟨cell_old _ hbx.1, cell_old _ hbx.2.1, cell_old _ hbx.2.2.1, cell_old _ hbx.2.2.2.1, cell_old _ hbx.2.2.2.2.1, cell_old _ hbx.2.2.2.2.2.1, cell_old _ hbx.2.2.2.2.2.2.1, hbx.2.2.2.2.2.2.2.alloc hbx.2.2.2.2.2.2.2.size _⟩
                clear hK K
                try simp only [List.getElem_toArray, List.getElem_cons_succ, List.getElem_cons_zero, Act.put, List.setIfInBounds_toArray, List.set_cons_zero, List.set_cons_succ]
                refine wpAnyH_ready (rs := [23]) (by kernel_rfl) (by simp) ?_
                refine AllReadyH.cons rfl (fun K hK => ?_) ?_
                · go_simp
                  refine hK.out _ _ ?_ (fun hHeld => ?_)
                  · exact ⟨cell_old _ hbx.1, cell_old _ hbx.2.1, cell_old _ hbx.2.2.1, cell_old _ hbx.2.2.2.1, cell_old _ hbx.2.2.2.2.1, cell_old _ hbx.2.2.2.2.2.1, cell_old _ hbx.2.2.2.2.2.2.1, hbx.2.2.2.2.2.2.2.alloc hbx.2.2.2.2.2.2.2.size _⟩
                  clear hK K
                  try simp only [List.getElem_toArray, List.getElem_cons_succ, List.getElem_cons_zero, Act.put, List.setIfInBounds_toArray, List.set_cons_zero, List.set_cons_succ]
                  refine wpAnyH_take (i := 24) (v := ?_) rfl (by kernel_rfl) (by kernel_rfl) (by kernel_rfl) (fun _ _ _ h => h) (Or.inl ⟨by rfl, ?_⟩) (by assumption) ?_
                  rotate_left
                  · intro w9 hSw; (try dsimp only at hSw); go_simp; try with_reducible rfl
                  try simp only [List.getElem_toArray, List.getElem_cons_succ, List.getElem_cons_zero, Act.put, List.setIfInBounds_toArray, List.set_cons_zero, List.set_cons_succ]
                  refine wpAnyH_done (by kernel_rfl) ?_ _
                  refine NoPanic.normal ?_
                  have HN5 := Lib.hid (show (va.alloc (.cells #[(.slice p1 (added ws r y).length q1), (.int .i64 (b - y))] 46)).cell? ⟨va.heap.size, 0, none⟩ = some (.slice p1 (added ws r y).length q1) ∧ (va.alloc (.cells #[(.slice p1 (added ws r y).length q1), (.int .i64 (b - y))] 46)).cell? ⟨va.heap.size, 1, none⟩ = some (.int .i64 (b - y)) from ⟨cell_new _ _ _ rfl rfl, cell_new _ _ _ rfl rfl⟩)
                  have HB5 := Lib.hid hHeld.2.2.2.2.2.2.2
                  have hNB : wr.heap.size ≤ va.heap.size ∧ va.heap.size < (va.alloc (.cells #[(.slice p1 (added ws r y).length q1), (.int .i64 (b - y))] 46)).heap.size := ⟨by have := hbx.2.2.2.2.2.2.2.size; omega, by first | (simp; done) | (have := hbb.size; simp at this ⊢; omega)⟩
                  have HON := Lib.hid (show OwnI wr.heap.size (va.alloc (.cells #[(.slice p1 (added ws r y).length q1), (.int .i64 (b - y))] 46)).heap.size (va.alloc (.cells #[(.slice p1 (added ws r y).length q1), (.int .i64 (b - y))] 46)) (.slice p1 (added ws r y).length q1) (added ws r y) from ((hoN.below (below_alloc va _)).mono (show wr.heap.size ≤ wr.drew.heap.size from Nat.le_refl _) (by simp)))
                  clear hHeld hbx hbb HT hoN hbxs
                  generalize (va.alloc (.cells #[(.slice p1 (added ws r y).length q1), (.int .i64 (b - y))] 46)) = w5 at *
                  generalize va.heap.size = NB at *
                  have n0 := HN5.out.1
                  have n1 := HN5.out.2
                  have hs5 := HB5.out.size
                  have hal : (added ws r y).length = ws.length := added_length ws r y
                  generalize added ws r y = zz at *
                  generalize b - y = bb at *
                  have HAL := Lib.hid hal
                  have hz4 : zz.length ≤ 4 := by omega
                  clear hal
                  by_cases hpl : planeB zz bb = true
                  · have HPT := Lib.hid (show okP tn = true from by rw [HTU.out]; exact hpl)
                    have HP := Lib.hid (show Calls Try.prog 91 #[.agg #[(.slice p1 zz.length q1), .int .i64 bb]] w5 (RetB true w5) from spec_plane p1 zz q1 bb w5 HON.out.reads (by omega) true (Lib.hid hpl))
                    go_wp2_with fail
                    refine HP.out.mono ?_
                    rintro e w6 ⟨rfl, hb6⟩
                    have HB6 := Lib.hid (HB5.out.trans (hb6.mono hs5))
                    have hs6 := hb6.size
                    replace n0 := cell_below hb6 n0 (by omega)
                    replace n1 := cell_below hb6 n1 (by omega)
                    have HO6 := Lib.hid ((HON.out.below hb6).mono (Nat.le_refl _) hb6.size)
                    clear hb6 HP
                    obtain ⟨q0, q1', q2, q3, q4, q5⟩ := (show w6.cell? ⟨B, 0, none⟩ = some (.slice (some ⟨g1, 0, none⟩) (m + 1) cap1) ∧ w6.cell? ⟨B, 1, none⟩ = some (v2) ∧ w6.cell? ⟨B, 2, none⟩ = some (v3) ∧ w6.frozen? ⟨B, 0, none⟩ = false ∧ w6.frozen? ⟨B, 1, none⟩ = false ∧ w6.frozen? ⟨B, 2, none⟩ = false from ⟨cell_below HB6.out HQB.out.1 hbz, cell_below HB6.out HQB.out.2.1 hbz, cell_below HB6.out HQB.out.2.2.1 hbz, fro_below HB6.out HQB.out.2.2.2.1 hbz, fro_below HB6.out HQB.out.2.2.2.2.1 hbz, fro_below HB6.out HQB.out.2.2.2.2.2 hbz⟩)
                    have HR6 := Lib.hid (HRM.out.below HB6.out)
                    have HOL := Lib.hid HRM.out.old
                    have hpl9 : (spl ++ [(ws, b)]).length = m + 1 := by rw [List.length_append, HM.out]; rfl
                    have hvs9 : (vs ++ [Value.slice p ws.length q]).length = m + 1 := by rw [List.length_append, hvl]; rfl
                    have HSP := Lib.hid (show spl ++ [(ws, b)] = tn.pl ∧ tn.p = (zz, bb) ∧ tn.tr = str ++ [(k : Int)] ∧ tn.mi = smi from ⟨by rw [HTU.out], by rw [HTU.out], by rw [HTU.out], by rw [HTU.out]⟩)
                    generalize spl ++ [(ws, b)] = PL at *
                    generalize vs ++ [Value.slice p ws.length q] = VS at *
                    have HO1 := Lib.hid (show w6.ownsRow w1.heap.size 46 2 (.slice (some ⟨g1, 0, none⟩) (m + 1) cap1) (m + 1) (cellsP VS PL) from by have := HR6.out.own1.1; rw [hpl9] at this; exact this)
                    have HPL := Lib.hid hpl9
                    have HVS := Lib.hid hvs9
                    clear hpl9 hvs9
                    go_wp2_with (at_builtin; refine wpList_append_lies _ rfl _ _ 115 rfl w1.heap.size 46 i0 (.agg #[.slice none 0 0, .int .i64 0]) 2 32 Try.underlying115 hi hz0 hz1 hz2 rfl (by decide) (.slice (some ⟨g1, 0, none⟩) (m + 1) cap1) (m + 1) (cellsP VS PL) rfl (HO1.out.alloc _) ⟨w6.heap.size, 0, none⟩ 1 1 [(.slice p1 zz.length q1), .int .i64 bb] rfl rfl (World.news_of_block (cs := #[(.slice p1 zz.length q1), .int .i64 bb]) (t := 46) (fr := (0, 0)) (heap_alloc_new w6 _)) (by simp [Value.oneCell']) (by omega) (by unfold maxLen; omega) (by omega) (by simp; omega) (w6.heap.size + 1) (by simp) ?_; intro gg cap w7 hown7 hgrow7 hat7 hlt7; refine Hid.out ?_)
                    refine Lib.hid ?_
                    have HM7 := Lib.hid (show RM w1.heap.size B w7 (Value.slice (some ⟨gg, 0, none⟩) (m + 1 + 1) cap) v2 v3 (VS ++ [(.slice p1 zz.length q1)]) (PL ++ [(zz, bb)]) str smi from by have := RM.plane (hi := wr.heap.size) (s := (zz, bb)) HR6.out HO6.out (by omega) hbz HOL.out hgrow7 (by rw [HPL.out]; exact hown7) hat7 (by omega); rw [HPL.out] at this; exact this)
                    obtain ⟨t0, t1, t2, t3, t4, t5⟩ := HQL.out _ _ _ _ _ _ (show (w6.alloc (.cells #[(.slice p1 zz.length q1), .int .i64 bb] 46)).cell? ⟨B, 0, none⟩ = some (.slice (some ⟨g1, 0, none⟩) (m + 1) cap1) ∧ (w6.alloc (.cells #[(.slice p1 zz.length q1), .int .i64 bb] 46)).cell? ⟨B, 1, none⟩ = some (v2) ∧ (w6.alloc (.cells #[(.slice p1 zz.length q1), .int .i64 bb] 46)).cell? ⟨B, 2, none⟩ = some (v3) ∧ (w6.alloc (.cells #[(.slice p1 zz.length q1), .int .i64 bb] 46)).frozen? ⟨B, 0, none⟩ = false ∧ (w6.alloc (.cells #[(.slice p1 zz.length q1), .int .i64 bb] 46)).frozen? ⟨B, 1, none⟩ = false ∧ (w6.alloc (.cells #[(.slice p1 zz.length q1), .int .i64 bb] 46)).frozen? ⟨B, 2, none⟩ = false from ⟨cell_old _ q0, cell_old _ q1', cell_old _ q2, fro_old _ (by omega) q3, fro_old _ (by omega) q4, fro_old _ (by omega) q5⟩) hgrow7 HR6.out.own1.2 (by simp; omega)
                    have HB7 := Lib.hid (((HBq.out.trans (HB6.out.mono hsz2)).alloc (by omega) (.cells #[(.slice p1 zz.length q1), .int .i64 bb] 46)).grown hgrow7 (by simp; omega) (fun g e => (HR6.out.own1.1.lt g e).1))
                    have hBw7 : B < w7.heap.size := Nat.lt_of_lt_of_le (show B < w6.heap.size by omega) (Nat.le_trans (by simp) hgrow7.size)
                    clear hown7 hat7 hgrow7 q0 q1' q2 q3 q4 q5 n0 n1
                    have HM8 := Lib.hid (show RM w1.heap.size B (w7.setCell ⟨B, 0, none⟩ (Value.slice (some ⟨gg, 0, none⟩) (m + 1 + 1) cap)) (Value.slice (some ⟨gg, 0, none⟩) (m + 1 + 1) cap) v2 v3 (VS ++ [(.slice p1 zz.length q1)]) (PL ++ [(zz, bb)]) str smi from HM7.out.set 0 _)
                    have HQ8 := Lib.hid (show (w7.setCell ⟨B, 0, none⟩ (Value.slice (some ⟨gg, 0, none⟩) (m + 1 + 1) cap)).cell? ⟨B, 0, none⟩ = some ((Value.slice (some ⟨gg, 0, none⟩) (m + 1 + 1) cap)) ∧ (w7.setCell ⟨B, 0, none⟩ (Value.slice (some ⟨gg, 0, none⟩) (m + 1 + 1) cap)).cell? ⟨B, 1, none⟩ = some (v2) ∧ (w7.setCell ⟨B, 0, none⟩ (Value.slice (some ⟨gg, 0, none⟩) (m + 1 + 1) cap)).cell? ⟨B, 2, none⟩ = some (v3) ∧ (w7.setCell ⟨B, 0, none⟩ (Value.slice (some ⟨gg, 0, none⟩) (m + 1 + 1) cap)).frozen? ⟨B, 0, none⟩ = false ∧ (w7.setCell ⟨B, 0, none⟩ (Value.slice (some ⟨gg, 0, none⟩) (m + 1 + 1) cap)).frozen? ⟨B, 1, none⟩ = false ∧ (w7.setCell ⟨B, 0, none⟩ (Value.slice (some ⟨gg, 0, none⟩) (m + 1 + 1) cap)).frozen? ⟨B, 2, none⟩ = false from ⟨World.cell?_setCell_same _ _ _ t0, (World.cell?_setCell_other _ _ _ _ (by simp)).trans t1, (World.cell?_setCell_other _ _ _ _ (by simp)).trans t2, by rw [World.frozen?_setCell]; exact t3, by rw [World.frozen?_setCell]; exact t4, by rw [World.frozen?_setCell]; exact t5⟩)
                    have HB8 := Lib.hid (show Below w1.heap.size w1 (w7.setCell ⟨B, 0, none⟩ (Value.slice (some ⟨gg, 0, none⟩) (m + 1 + 1) cap)) from HB7.out.setCell (by simp; omega) _)
                    have hBw8 : B < (w7.setCell ⟨B, 0, none⟩ (Value.slice (some ⟨gg, 0, none⟩) (m + 1 + 1) cap)).heap.size := by rw [size_set]; exact hBw7
                    have hs8 := HB8.out.size
                    generalize htl : str.length = tl at *
                    have HTL := Lib.hid htl
                    clear htl
                    have HO8 := Lib.hid (show (w7.setCell ⟨B, 0, none⟩ (Value.slice (some ⟨gg, 0, none⟩) (m + 1 + 1) cap)).ownsRow w1.heap.size 3 1 v2 tl (str.map (Value.int .i64)) from by have := HM8.out.own2.1; rw [HTL.out] at this; exact this)
                    have u1 := HQ8.out.2.1
                    have e5 : IntKind.i64.wrap ((cnt : Int) + 1) = ((cnt + 1 : Nat) : Int) := by rw [IntWalk.i64_in _ (by omega)]; omega
                    have HNW := Lib.hid (show ∀ (j : Nat) (u : Value), [Value.int .i64 (k : Int)][j]? = some u → ((w7.setCell ⟨B, 0, none⟩ (Value.slice (some ⟨gg, 0, none⟩) (m + 1 + 1) cap)).alloc (.cells #[.int .i64 (k : Int)] 3)).cell? ((⟨w7.heap.size, 0, none⟩ : Addr).add j) = some u from fun j u hj => by
                      cases j with
                      | zero =>
                        simp at hj; subst hj
                        exact cell_new _ _ _ (by simp [size_set]) rfl
                      | succ j => simp at hj)
                    have htl9 : tl ≤ 16 * j + 16 := by have := HTL.out; omega
                    go_wp2_with (at_builtin; refine wpList_append_lies _ rfl _ _ 23 rfl w1.heap.size 3 iI (.int .i64 0) 1 8 Try.underlying23 hi' hz0' hz1' hz2' rfl (by decide) v2 tl (str.map (Value.int .i64)) rfl (HO8.out.alloc _) _ 1 1 [.int .i64 (k : Int)] rfl rfl HNW.out (by simp [Value.oneCell']) (by omega) (by unfold maxLen; omega) (by omega) (by simp; omega) ((w7.setCell ⟨B, 0, none⟩ (Value.slice (some ⟨gg, 0, none⟩) (m + 1 + 1) cap)).heap.size + 1) (by simp) ?_; intro gg2 cap2 w9 hown9 hgrow9 hat9 hlt9; refine Hid.out ?_)
                    refine Lib.hid ?_
                    have HM9 := Lib.hid (show RM w1.heap.size B w9 (Value.slice (some ⟨gg, 0, none⟩) (m + 1 + 1) cap) (Value.slice (some ⟨gg2, 0, none⟩) (tl + 1) cap2) v3 (VS ++ [.slice p1 zz.length q1]) (PL ++ [(zz, bb)]) (str ++ [(k : Int)]) smi from by have := RM.trace (z := (k : Int)) HM8.out hgrow9 (by rw [HTL.out]; exact hown9) hat9 hBw8; rw [HTL.out] at this; exact this)
                    obtain ⟨t0, t1, t2, t3, t4, t5⟩ := HQL.out _ _ _ _ _ _ (show ((w7.setCell ⟨B, 0, none⟩ (Value.slice (some ⟨gg, 0, none⟩) (m + 1 + 1) cap)).alloc (.cells #[.int .i64 (k : Int)] 3)).cell? ⟨B, 0, none⟩ = some ((Value.slice (some ⟨gg, 0, none⟩) (m + 1 + 1) cap)) ∧ ((w7.setCell ⟨B, 0, none⟩ (Value.slice (some ⟨gg, 0, none⟩) (m + 1 + 1) cap)).alloc (.cells #[.int .i64 (k : Int)] 3)).cell? ⟨B, 1, none⟩ = some (v2) ∧ ((w7.setCell ⟨B, 0, none⟩ (Value.slice (some ⟨gg, 0, none⟩) (m + 1 + 1) cap)).alloc (.cells #[.int .i64 (k : Int)] 3)).cell? ⟨B, 2, none⟩ = some (v3) ∧ ((w7.setCell ⟨B, 0, none⟩ (Value.slice (some ⟨gg, 0, none⟩) (m + 1 + 1) cap)).alloc (.cells #[.int .i64 (k : Int)] 3)).frozen? ⟨B, 0, none⟩ = false ∧ ((w7.setCell ⟨B, 0, none⟩ (Value.slice (some ⟨gg, 0, none⟩) (m + 1 + 1) cap)).alloc (.cells #[.int .i64 (k : Int)] 3)).frozen? ⟨B, 1, none⟩ = false ∧ ((w7.setCell ⟨B, 0, none⟩ (Value.slice (some ⟨gg, 0, none⟩) (m + 1 + 1) cap)).alloc (.cells #[.int .i64 (k : Int)] 3)).frozen? ⟨B, 2, none⟩ = false from ⟨cell_old _ HQ8.out.1, cell_old _ HQ8.out.2.1, cell_old _ HQ8.out.2.2.1, fro_old _ (by omega) HQ8.out.2.2.2.1, fro_old _ (by omega) HQ8.out.2.2.2.2.1, fro_old _ (by omega) HQ8.out.2.2.2.2.2⟩) hgrow9 HM8.out.own2.2 (by simp; omega)
                    have HB9 := Lib.hid ((HB8.out.alloc (by omega) (.cells #[.int .i64 (k : Int)] 3)).grown hgrow9 (by simp; omega) (fun g e => (HM8.out.own2.1.lt g e).1))
                    have hBw9 : B < w9.heap.size := Nat.lt_of_lt_of_le hBw8 (Nat.le_trans (by simp) hgrow9.size)
                    clear hown9 hat9 hgrow9 u1
                    have HM10 := Lib.hid (show RM w1.heap.size B (w9.setCell ⟨B, 1, none⟩ (Value.slice (some ⟨gg2, 0, none⟩) (tl + 1) cap2)) (Value.slice (some ⟨gg, 0, none⟩) (m + 1 + 1) cap) (Value.slice (some ⟨gg2, 0, none⟩) (tl + 1) cap2) v3 (VS ++ [.slice p1 zz.length q1]) (PL ++ [(zz, bb)]) (str ++ [(k : Int)]) smi from HM9.out.set 1 _)
                    have HQ10 := Lib.hid (show (w9.setCell ⟨B, 1, none⟩ (Value.slice (some ⟨gg2, 0, none⟩) (tl + 1) cap2)).cell? ⟨B, 0, none⟩ = some ((Value.slice (some ⟨gg, 0, none⟩) (m + 1 + 1) cap)) ∧ (w9.setCell ⟨B, 1, none⟩ (Value.slice (some ⟨gg2, 0, none⟩) (tl + 1) cap2)).cell? ⟨B, 1, none⟩ = some ((Value.slice (some ⟨gg2, 0, none⟩) (tl + 1) cap2)) ∧ (w9.setCell ⟨B, 1, none⟩ (Value.slice (some ⟨gg2, 0, none⟩) (tl + 1) cap2)).cell? ⟨B, 2, none⟩ = some (v3) ∧ (w9.setCell ⟨B, 1, none⟩ (Value.slice (some ⟨gg2, 0, none⟩) (tl + 1) cap2)).frozen? ⟨B, 0, none⟩ = false ∧ (w9.setCell ⟨B, 1, none⟩ (Value.slice (some ⟨gg2, 0, none⟩) (tl + 1) cap2)).frozen? ⟨B, 1, none⟩ = false ∧ (w9.setCell ⟨B, 1, none⟩ (Value.slice (some ⟨gg2, 0, none⟩) (tl + 1) cap2)).frozen? ⟨B, 2, none⟩ = false from ⟨(World.cell?_setCell_other _ _ _ _ (by simp)).trans t0, World.cell?_setCell_same _ _ _ t1, (World.cell?_setCell_other _ _ _ _ (by simp)).trans t2, by rw [World.frozen?_setCell]; exact t3, by rw [World.frozen?_setCell]; exact t4, by rw [World.frozen?_setCell]; exact t5⟩)
                    have HB10 := Lib.hid (show Below w1.heap.size w1 (w9.setCell ⟨B, 1, none⟩ (Value.slice (some ⟨gg2, 0, none⟩) (tl + 1) cap2)) from HB9.out.setCell (by simp; omega) _)
                    have HBs10 := Lib.hid (show B < (w9.setCell ⟨B, 1, none⟩ (Value.slice (some ⟨gg2, 0, none⟩) (tl + 1) cap2)).heap.size from by rw [size_set]; exact hBw9)
                    have HOK3 := Lib.hid (show ∀ q, q < k + 1 → okP (inn rows zs st (q + 1)) = true from fun q hq => by
                      by_cases e : q = k
                      · rw [e, HIN.out.1]; exact HPT.out
                      · exact HOK.out q (by omega))
                    go_wp2_with fail
                    go_roundw
                    case rel => exact ⟨k + 1, by omega, by first | (rw [HIN.out.2]; done) | (rw [HIN.out.2]; rfl) | (rw [HIN.out.2]; congr 1), by go_num, HOK3, Lib.hid (by rw [HIN.out.1]; exact ⟨_, _, _, _, VS, by rw [← HSP.out.1, HPL.out]; exact HVS.out, HQ10.out, by rw [← HSP.out.1, HSP.out.2.1, HSP.out.2.2.1, HSP.out.2.2.2]; exact HM10.out⟩), HB10, HBs10⟩
                    case measure => simp [intOf]; omega
                  · replace hpl : planeB zz bb = false := by cases e9 : planeB zz bb; rfl; exact absurd e9 hpl
                    have HOKR := Lib.hid (HNO.out (show okP tn = false from by rw [HTU.out]; exact hpl))
                    have HP := Lib.hid (show Calls Try.prog 91 #[.agg #[(.slice p1 zz.length q1), .int .i64 bb]] w5 (RetB false w5) from spec_plane p1 zz q1 bb w5 HON.out.reads (by omega) false (Lib.hid hpl))
                    go_wp2_with fail
                    refine HP.out.mono ?_
                    rintro e w6 ⟨rfl, hb6⟩
                    have HB6 := Lib.hid (HB5.out.trans (hb6.mono hs5))
                    have hs6 := hb6.size
                    replace n0 := cell_below hb6 n0 (by omega)
                    replace n1 := cell_below hb6 n1 (by omega)
                    have HO6 := Lib.hid ((HON.out.below hb6).mono (Nat.le_refl _) hb6.size)
                    clear hb6 HP
                    have HBW := HBq.out.trans (HB6.out.mono hsz2)
                    have x1_0 := cell_below HBW HX.out.2.2.1 (by omega)
                    have x1_1 := cell_below HBW HX.out.2.2.2.1 (by omega)
                    have x1_2 := cell_below HBW HX.out.2.2.2.2.1 (by omega)
                    have f1_0 := fro_below HBW HX.out.2.2.2.2.2.1 (by omega)
                    have f1_1 := fro_below HBW HX.out.2.2.2.2.2.2.1 (by omega)
                    have f1_2 := fro_below HBW HX.out.2.2.2.2.2.2.2 (by omega)
                    go_wp2_with fail
                    refine bodyPost_ret (v := .tuple #[nil3, .bool false]) (by simp [nil3, results, Try.results111, go_sem, x1_0, x1_1, x1_2]) rfl ?_
                    rw [HOKR.out]
                    exact ⟨(((HBC.out.trans (HBW.mono (by omega))).setCell (by simp) _).setCell (by simp) _).setCell (by simp) _, (fun h => by cases h), fun _ => rfl⟩
                exact AllReadyH.nil
              exact AllReadyH.nil
            refine AllReadyH.cons rfl (fun K hK => ?_) ?_
            · go_simp
              refine hK.out _ _ ?_ (fun hHeld => ?_)
              · exact ⟨cell_old _ x0_0, cell_old _ x0_1, cell_old _ hc, cell_old _ hlc, cell_old _ y0, cell_old _ cp0, cell_old _ cp1, ((Below.refl _ _).drew.alloc (Nat.le_refl _) _)⟩
              clear hK K
              try simp only [List.getElem_toArray, List.getElem_cons_succ, List.getElem_cons_zero, Act.put, List.setIfInBounds_toArray, List.set_cons_zero, List.set_cons_succ]
              refine wpAnyH_ready (rs := [18]) (by kernel_rfl) (by simp) ?_
              refine AllReadyH.cons rfl (fun K hK => ?_) ?_
              · go_simp
                refine Calls.mono (HT.out _ ?_) ?_
                · exact hHeld
                clear hHeld
                rintro e va ⟨p1, q1, rfl, hoN, hbb, hbx⟩
                refine hK.out _ _ ?_ (fun hHeld => ?_)
                · exact hbx
                clear hK K
                try simp only [List.getElem_toArray, List.getElem_cons_succ, List.getElem_cons_zero, Act.put, List.setIfInBounds_toArray, List.set_cons_zero, List.set_cons_succ]
                have y8 := cell_below hbb (show (wr.drew.alloc (.cells #[.slice none 0 0, .int .i64 0] 46)).cell? ⟨wr.heap.size, 0, none⟩ = some (.slice none 0 0) from cell_new _ _ _ rfl rfl) (by simp)
                have y9 := cell_below hbb (show (wr.drew.alloc (.cells #[.slice none 0 0, .int .i64 0] 46)).cell? ⟨wr.heap.size, 1, none⟩ = some (.int .i64 0) from cell_new _ _ _ rfl rfl) (by simp)
                have z8 := fro_below hbb (show (wr.drew.alloc (.cells #[.slice none 0 0, .int .i64 0] 46)).frozen? ⟨wr.heap.size, 0, none⟩ = false from fro_new _ _ _ rfl) (by simp)
                have z9 := fro_below hbb (show (wr.drew.alloc (.cells #[.slice none 0 0, .int .i64 0] 46)).frozen? ⟨wr.heap.size, 1, none⟩ = false from fro_new _ _ _ rfl) (by simp)
                refine wpAnyH_take (i := 19) (v := ?_) rfl (by kernel_rfl) (by kernel_rfl) (by kernel_rfl) (fun _ _ _ h => h) (Or.inl ⟨by rfl, ?_⟩) (by assumption) ?_
                rotate_left
                · intro w9 hSw; (try dsimp only at hSw); go_simp; try with_reducible rfl
                try simp only [List.getElem_toArray, List.getElem_cons_succ, List.getElem_cons_zero, Act.put, List.setIfInBounds_toArray, List.set_cons_zero, List.set_cons_succ]
                refine wpAnyH_take (i := 20) (v := ?_) rfl (by kernel_rfl) (by kernel_rfl) (by kernel_rfl) (fun _ _ _ h => h) (Or.inl ⟨by rfl, ?_⟩) (by assumption) ?_
                rotate_left
                · intro w9 hSw; (try dsimp only at hSw); go_simp; try with_reducible rfl
                try simp only [List.getElem_toArray, List.getElem_cons_succ, List.getElem_cons_zero, Act.put, List.setIfInBounds_toArray, List.set_cons_zero, List.set_cons_succ]
                refine wpAnyH_take (i := 21) (v := ?_) rfl (by kernel_rfl) (by kernel_rfl) (by kernel_rfl) (fun _ _ _ h => h) (Or.inl ⟨by rfl, ?_⟩) (by assumption) ?_
                rotate_left
                · intro w9 hSw; (try dsimp only at hSw); go_simp; try with_reducible rfl
                try simp only [List.getElem_toArray, List.getElem_cons_succ, List.getElem_cons_zero, Act.put, List.setIfInBounds_toArray, List.set_cons_zero, List.set_cons_succ]
                refine wpAnyH_ready (rs := [23]) (by kernel_rfl) (by simp) ?_
                refine AllReadyH.cons rfl (fun K hK => ?_) ?_
                · go_simp
                  refine hK.out _ _ ?_ (fun hHeld => ?_)
                  · exact ⟨cell_set (cell_set hbx.1 (by first | (simp; done) | (simp; omega) | omega) _) (by first | (simp; done) | (simp; omega) | omega) _, cell_set (cell_set hbx.2.1 (by first | (simp; done) | (simp; omega) | omega) _) (by first | (simp; done) | (simp; omega) | omega) _, cell_set (cell_set hbx.2.2.1 (by first | (simp; done) | (simp; omega) | omega) _) (by first | (simp; done) | (simp; omega) | omega) _, cell_set (cell_set hbx.2.2.2.1 (by first | (simp; done) | (simp; omega) | omega) _) (by first | (simp; done) | (simp; omega) | omega) _, cell_set (cell_set hbx.2.2.2.2.1 (by first | (simp; done) | (simp; omega) | omega) _) (by first | (simp; done) | (simp; omega) | omega) _, cell_set (cell_set hbx.2.2.2.2.2.1 (by first | (simp; done) | (simp; omega) | omega) _) (by first | (simp; done) | (simp; omega) | omega) _, cell_set (cell_set hbx.2.2.2.2.2.2.1 (by first | (simp; done) | (simp; omega) | omega) _) (by first | (simp; done) | (simp; omega) | omega) _, (hbx.2.2.2.2.2.2.2.setCell (by simp) _).setCell (by simp) _⟩
                  clear hK K
                  try simp only [List.getElem_toArray, List.getElem_cons_succ, List.getElem_cons_zero, Act.put, List.setIfInBounds_toArray, List.set_cons_zero, List.set_cons_succ]
                  refine wpAnyH_take (i := 24) (v := ?_) rfl (by kernel_rfl) (by kernel_rfl) (by kernel_rfl) (fun _ _ _ h => h) (Or.inl ⟨by rfl, ?_⟩) (by assumption) ?_
                  rotate_left
                  · intro w9 hSw; (try dsimp only at hSw); go_simp; try with_reducible rfl
                  try simp only [List.getElem_toArray, List.getElem_cons_succ, List.getElem_cons_zero, Act.put, List.setIfInBounds_toArray, List.set_cons_zero, List.set_cons_succ]
                  refine wpAnyH_done (by kernel_rfl) ?_ _
                  refine NoPanic.normal ?_
                  have HN5 := Lib.hid (show ((va.setCell ⟨wr.heap.size, 0, none⟩ (.slice p1 (added ws r y).length q1)).setCell ⟨wr.heap.size, 1, none⟩ (.int .i64 (b - y))).cell? ⟨wr.heap.size, 0, none⟩ = some (.slice p1 (added ws r y).length q1) ∧ ((va.setCell ⟨wr.heap.size, 0, none⟩ (.slice p1 (added ws r y).length q1)).setCell ⟨wr.heap.size, 1, none⟩ (.int .i64 (b - y))).cell? ⟨wr.heap.size, 1, none⟩ = some (.int .i64 (b - y)) from ⟨(World.cell?_setCell_other _ _ _ _ (by simp)).trans (World.cell?_setCell_same _ _ _ y8), World.cell?_setCell_same _ _ _ ((World.cell?_setCell_other _ _ _ _ (by simp)).trans y9)⟩)
                  have HB5 := Lib.hid hHeld.2.2.2.2.2.2.2
                  have hNB : wr.heap.size ≤ wr.heap.size ∧ wr.heap.size < ((va.setCell ⟨wr.heap.size, 0, none⟩ (.slice p1 (added ws r y).length q1)).setCell ⟨wr.heap.size, 1, none⟩ (.int .i64 (b - y))).heap.size := ⟨by have := hbx.2.2.2.2.2.2.2.size; omega, by first | (simp; done) | (have := hbb.size; simp at this ⊢; omega)⟩
                  have HON := Lib.hid (show OwnI wr.heap.size ((va.setCell ⟨wr.heap.size, 0, none⟩ (.slice p1 (added ws r y).length q1)).setCell ⟨wr.heap.size, 1, none⟩ (.int .i64 (b - y))).heap.size ((va.setCell ⟨wr.heap.size, 0, none⟩ (.slice p1 (added ws r y).length q1)).setCell ⟨wr.heap.size, 1, none⟩ (.int .i64 (b - y))) (.slice p1 (added ws r y).length q1) (added ws r y) from (by simp only [size_set]; exact ((hoN.set (a := ⟨wr.heap.size, 0, none⟩) (by simp) _).set (a := ⟨wr.heap.size, 1, none⟩) (by simp) _).mono (by simp) (Nat.le_refl _)))
                  clear hHeld hbx hbb HT hoN y8 y9 z8 z9
                  generalize ((va.setCell ⟨wr.heap.size, 0, none⟩ (.slice p1 (added ws r y).length q1)).setCell ⟨wr.heap.size, 1, none⟩ (.int .i64 (b - y))) = w5 at *
                  have n0 := HN5.out.1
                  have n1 := HN5.out.2
                  have hs5 := HB5.out.size
                  have hal : (added ws r y).length = ws.length := added_length ws r y
                  generalize added ws r y = zz at *
                  generalize b - y = bb at *
                  have HAL := Lib.hid hal
                  have hz4 : zz.length ≤ 4 := by omega
                  clear hal
                  by_cases hpl : planeB zz bb = true
                  · have HPT := Lib.hid (show okP tn = true from by rw [HTU.out]; exact hpl)
                    have HP := Lib.hid (show Calls Try.prog 91 #[.agg #[(.slice p1 zz.length q1), .int .i64 bb]] w5 (RetB true w5) from spec_plane p1 zz q1 bb w5 HON.out.reads (by omega) true (Lib.hid hpl))
                    go_wp2_with fail
                    refine HP.out.mono ?_
                    rintro e w6 ⟨rfl, hb6⟩
                    have HB6 := Lib.hid (HB5.out.trans (hb6.mono hs5))
                    have hs6 := hb6.size
                    replace n0 := cell_below hb6 n0 (by omega)
                    replace n1 := cell_below hb6 n1 (by omega)
                    have HO6 := Lib.hid ((HON.out.below hb6).mono (Nat.le_refl _) hb6.size)
                    clear hb6 HP
                    obtain ⟨q0, q1', q2, q3, q4, q5⟩ := (show w6.cell? ⟨B, 0, none⟩ = some (.slice (some ⟨g1, 0, none⟩) (m + 1) cap1) ∧ w6.cell? ⟨B, 1, none⟩ = some (v2) ∧ w6.cell? ⟨B, 2, none⟩ = some (v3) ∧ w6.frozen? ⟨B, 0, none⟩ = false ∧ w6.frozen? ⟨B, 1, none⟩ = false ∧ w6.frozen? ⟨B, 2, none⟩ = false from ⟨cell_below HB6.out HQB.out.1 hbz, cell_below HB6.out HQB.out.2.1 hbz, cell_below HB6.out HQB.out.2.2.1 hbz, fro_below HB6.out HQB.out.2.2.2.1 hbz, fro_below HB6.out HQB.out.2.2.2.2.1 hbz, fro_below HB6.out HQB.out.2.2.2.2.2 hbz⟩)
                    have HR6 := Lib.hid (HRM.out.below HB6.out)
                    have HOL := Lib.hid HRM.out.old
                    have hpl9 : (spl ++ [(ws, b)]).length = m + 1 := by rw [List.length_append, HM.out]; rfl
                    have hvs9 : (vs ++ [Value.slice p ws.length q]).length = m + 1 := by rw [List.length_append, hvl]; rfl
                    have HSP := Lib.hid (show spl ++ [(ws, b)] = tn.pl ∧ tn.p = (zz, bb) ∧ tn.tr = str ++ [(k : Int)] ∧ tn.mi = smi from ⟨by rw [HTU.out], by rw [HTU.out], by rw [HTU.out], by rw [HTU.out]⟩)
                    generalize spl ++ [(ws, b)] = PL at *
                    generalize vs ++ [Value.slice p ws.length q] = VS at *
                    have HO1 := Lib.hid (show w6.ownsRow w1.heap.size 46 2 (.slice (some ⟨g1, 0, none⟩) (m + 1) cap1) (m + 1) (cellsP VS PL) from by have := HR6.out.own1.1; rw [hpl9] at this; exact this)
                    have HPL := Lib.hid hpl9
                    have HVS := Lib.hid hvs9
                    clear hpl9 hvs9
                    go_wp2_with (at_builtin; refine wpList_append_lies _ rfl _ _ 115 rfl w1.heap.size 46 i0 (.agg #[.slice none 0 0, .int .i64 0]) 2 32 Try.underlying115 hi hz0 hz1 hz2 rfl (by decide) (.slice (some ⟨g1, 0, none⟩) (m + 1) cap1) (m + 1) (cellsP VS PL) rfl (HO1.out.alloc _) ⟨w6.heap.size, 0, none⟩ 1 1 [(.slice p1 zz.length q1), .int .i64 bb] rfl rfl (World.news_of_block (cs := #[(.slice p1 zz.length q1), .int .i64 bb]) (t := 46) (fr := (0, 0)) (heap_alloc_new w6 _)) (by simp [Value.oneCell']) (by omega) (by unfold maxLen; omega) (by omega) (by simp; omega) (w6.heap.size + 1) (by simp) ?_; intro gg cap w7 hown7 hgrow7 hat7 hlt7; refine Hid.out ?_)
                    refine Lib.hid ?_
                    have HM7 := Lib.hid (show RM w1.heap.size B w7 (Value.slice (some ⟨gg, 0, none⟩) (m + 1 + 1) cap) v2 v3 (VS ++ [(.slice p1 zz.length q1)]) (PL ++ [(zz, bb)]) str smi from by have := RM.plane (hi := wr.heap.size) (s := (zz, bb)) HR6.out HO6.out (by omega) hbz HOL.out hgrow7 (by rw [HPL.out]; exact hown7) hat7 (by omega); rw [HPL.out] at this; exact this)
                    obtain ⟨t0, t1, t2, t3, t4, t5⟩ := HQL.out _ _ _ _ _ _ (show (w6.alloc (.cells #[(.slice p1 zz.length q1), .int .i64 bb] 46)).cell? ⟨B, 0, none⟩ = some (.slice (some ⟨g1, 0, none⟩) (m + 1) cap1) ∧ (w6.alloc (.cells #[(.slice p1 zz.length q1), .int .i64 bb] 46)).cell? ⟨B, 1, none⟩ = some (v2) ∧ (w6.alloc (.cells #[(.slice p1 zz.length q1), .int .i64 bb] 46)).cell? ⟨B, 2, none⟩ = some (v3) ∧ (w6.alloc (.cells #[(.slice p1 zz.length q1), .int .i64 bb] 46)).frozen? ⟨B, 0, none⟩ = false ∧ (w6.alloc (.cells #[(.slice p1 zz.length q1), .int .i64 bb] 46)).frozen? ⟨B, 1, none⟩ = false ∧ (w6.alloc (.cells #[(.slice p1 zz.length q1), .int .i64 bb] 46)).frozen? ⟨B, 2, none⟩ = false from ⟨cell_old _ q0, cell_old _ q1', cell_old _ q2, fro_old _ (by omega) q3, fro_old _ (by omega) q4, fro_old _ (by omega) q5⟩) hgrow7 HR6.out.own1.2 (by simp; omega)
                    have HB7 := Lib.hid (((HBq.out.trans (HB6.out.mono hsz2)).alloc (by omega) (.cells #[(.slice p1 zz.length q1), .int .i64 bb] 46)).grown hgrow7 (by simp; omega) (fun g e => (HR6.out.own1.1.lt g e).1))
                    have hBw7 : B < w7.heap.size := Nat.lt_of_lt_of_le (show B < w6.heap.size by omega) (Nat.le_trans (by simp) hgrow7.size)
                    clear hown7 hat7 hgrow7 q0 q1' q2 q3 q4 q5 n0 n1
                    have HM8 := Lib.hid (show RM w1.heap.size B (w7.setCell ⟨B, 0, none⟩ (Value.slice (some ⟨gg, 0, none⟩) (m + 1 + 1) cap)) (Value.slice (some ⟨gg, 0, none⟩) (m + 1 + 1) cap) v2 v3 (VS ++ [(.slice p1 zz.length q1)]) (PL ++ [(zz, bb)]) str smi from HM7.out.set 0 _)
                    have HQ8 := Lib.hid (show (w7.setCell ⟨B, 0, none⟩ (Value.slice (some ⟨gg, 0, none⟩) (m + 1 + 1) cap)).cell? ⟨B, 0, none⟩ = some ((Value.slice (some ⟨gg, 0, none⟩) (m + 1 + 1) cap)) ∧ (w7.setCell ⟨B, 0, none⟩ (Value.slice (some ⟨gg, 0, none⟩) (m + 1 + 1) cap)).cell? ⟨B, 1, none⟩ = some (v2) ∧ (w7.setCell ⟨B, 0, none⟩ (Value.slice (some ⟨gg, 0, none⟩) (m + 1 + 1) cap)).cell? ⟨B, 2, none⟩ = some (v3) ∧ (w7.setCell ⟨B, 0, none⟩ (Value.slice (some ⟨gg, 0, none⟩) (m + 1 + 1) cap)).frozen? ⟨B, 0, none⟩ = false ∧ (w7.setCell ⟨B, 0, none⟩ (Value.slice (some ⟨gg, 0, none⟩) (m + 1 + 1) cap)).frozen? ⟨B, 1, none⟩ = false ∧ (w7.setCell ⟨B, 0, none⟩ (Value.slice (some ⟨gg, 0, none⟩) (m + 1 + 1) cap)).frozen? ⟨B, 2, none⟩ = false from ⟨World.cell?_setCell_same _ _ _ t0, (World.cell?_setCell_other _ _ _ _ (by simp)).trans t1, (World.cell?_setCell_other _ _ _ _ (by simp)).trans t2, by rw [World.frozen?_setCell]; exact t3, by rw [World.frozen?_setCell]; exact t4, by rw [World.frozen?_setCell]; exact t5⟩)
                    have HB8 := Lib.hid (show Below w1.heap.size w1 (w7.setCell ⟨B, 0, none⟩ (Value.slice (some ⟨gg, 0, none⟩) (m + 1 + 1) cap)) from HB7.out.setCell (by simp; omega) _)
                    have hBw8 : B < (w7.setCell ⟨B, 0, none⟩ (Value.slice (some ⟨gg, 0, none⟩) (m + 1 + 1) cap)).heap.size := by rw [size_set]; exact hBw7
                    have hs8 := HB8.out.size
                    generalize htl : str.length = tl at *
                    have HTL := Lib.hid htl
                    clear htl
                    have HO8 := Lib.hid (show (w7.setCell ⟨B, 0, none⟩ (Value.slice (some ⟨gg, 0, none⟩) (m + 1 + 1) cap)).ownsRow w1.heap.size 3 1 v2 tl (str.map (Value.int .i64)) from by have := HM8.out.own2.1; rw [HTL.out] at this; exact this)
                    have u1 := HQ8.out.2.1
                    have e5 : IntKind.i64.wrap ((cnt : Int) + 1) = ((cnt + 1 : Nat) : Int) := by rw [IntWalk.i64_in _ (by omega)]; omega
                    have HNW := Lib.hid (show ∀ (j : Nat) (u : Value), [Value.int .i64 (k : Int)][j]? = some u → ((w7.setCell ⟨B, 0, none⟩ (Value.slice (some ⟨gg, 0, none⟩) (m + 1 + 1) cap)).alloc (.cells #[.int .i64 (k : Int)] 3)).cell? ((⟨w7.heap.size, 0, none⟩ : Addr).add j) = some u from fun j u hj => by
                      cases j with
                      | zero =>
                        simp at hj; subst hj
                        exact cell_new _ _ _ (by simp [size_set]) rfl
                      | succ j => simp at hj)
                    have htl9 : tl ≤ 16 * j + 16 := by have := HTL.out; omega
                    go_wp2_with (at_builtin; refine wpList_append_lies _ rfl _ _ 23 rfl w1.heap.size 3 iI (.int .i64 0) 1 8 Try.underlying23 hi' hz0' hz1' hz2' rfl (by decide) v2 tl (str.map (Value.int .i64)) rfl (HO8.out.alloc _) _ 1 1 [.int .i64 (k : Int)] rfl rfl HNW.out (by simp [Value.oneCell']) (by omega) (by unfold maxLen; omega) (by omega) (by simp; omega) ((w7.setCell ⟨B, 0, none⟩ (Value.slice (some ⟨gg, 0, none⟩) (m + 1 + 1) cap)).heap.size + 1) (by simp) ?_; intro gg2 cap2 w9 hown9 hgrow9 hat9 hlt9; refine Hid.out ?_)
                    refine Lib.hid ?_
                    have HM9 := Lib.hid (show RM w1.heap.size B w9 (Value.slice (some ⟨gg, 0, none⟩) (m + 1 + 1) cap) (Value.slice (some ⟨gg2, 0, none⟩) (tl + 1) cap2) v3 (VS ++ [.slice p1 zz.length q1]) (PL ++ [(zz, bb)]) (str ++ [(k : Int)]) smi from by have := RM.trace (z := (k : Int)) HM8.out hgrow9 (by rw [HTL.out]; exact hown9) hat9 hBw8; rw [HTL.out] at this; exact this)
                    obtain ⟨t0, t1, t2, t3, t4, t5⟩ := HQL.out _ _ _ _ _ _ (show ((w7.setCell ⟨B, 0, none⟩ (Value.slice (some ⟨gg, 0, none⟩) (m + 1 + 1) cap)).alloc (.cells #[.int .i64 (k : Int)] 3)).cell? ⟨B, 0, none⟩ = some ((Value.slice (some ⟨gg, 0, none⟩) (m + 1 + 1) cap)) ∧ ((w7.setCell ⟨B, 0, none⟩ (Value.slice (some ⟨gg, 0, none⟩) (m + 1 + 1) cap)).alloc (.cells #[.int .i64 (k : Int)] 3)).cell? ⟨B, 1, none⟩ = some (v2) ∧ ((w7.setCell ⟨B, 0, none⟩ (Value.slice (some ⟨gg, 0, none⟩) (m + 1 + 1) cap)).alloc (.cells #[.int .i64 (k : Int)] 3)).cell? ⟨B, 2, none⟩ = some (v3) ∧ ((w7.setCell ⟨B, 0, none⟩ (Value.slice (some ⟨gg, 0, none⟩) (m + 1 + 1) cap)).alloc (.cells #[.int .i64 (k : Int)] 3)).frozen? ⟨B, 0, none⟩ = false ∧ ((w7.setCell ⟨B, 0, none⟩ (Value.slice (some ⟨gg, 0, none⟩) (m + 1 + 1) cap)).alloc (.cells #[.int .i64 (k : Int)] 3)).frozen? ⟨B, 1, none⟩ = false ∧ ((w7.setCell ⟨B, 0, none⟩ (Value.slice (some ⟨gg, 0, none⟩) (m + 1 + 1) cap)).alloc (.cells #[.int .i64 (k : Int)] 3)).frozen? ⟨B, 2, none⟩ = false from ⟨cell_old _ HQ8.out.1, cell_old _ HQ8.out.2.1, cell_old _ HQ8.out.2.2.1, fro_old _ (by omega) HQ8.out.2.2.2.1, fro_old _ (by omega) HQ8.out.2.2.2.2.1, fro_old _ (by omega) HQ8.out.2.2.2.2.2⟩) hgrow9 HM8.out.own2.2 (by simp; omega)
                    have HB9 := Lib.hid ((HB8.out.alloc (by omega) (.cells #[.int .i64 (k : Int)] 3)).grown hgrow9 (by simp; omega) (fun g e => (HM8.out.own2.1.lt g e).1))
                    have hBw9 : B < w9.heap.size := Nat.lt_of_lt_of_le hBw8 (Nat.le_trans (by simp) hgrow9.size)
                    clear hown9 hat9 hgrow9 u1
                    have HM10 := Lib.hid (show RM w1.heap.size B (w9.setCell ⟨B, 1, none⟩ (Value.slice (some ⟨gg2, 0, none⟩) (tl + 1) cap2)) (Value.slice (some ⟨gg, 0, none⟩) (m + 1 + 1) cap) (Value.slice (some ⟨gg2, 0, none⟩) (tl + 1) cap2) v3 (VS ++ [.slice p1 zz.length q1]) (PL ++ [(zz, bb)]) (str ++ [(k : Int)]) smi from HM9.out.set 1 _)
                    have HQ10 := Lib.hid (show (w9.setCell ⟨B, 1, none⟩ (Value.slice (some ⟨gg2, 0, none⟩) (tl + 1) cap2)).cell? ⟨B, 0, none⟩ = some ((Value.slice (some ⟨gg, 0, none⟩) (m + 1 + 1) cap)) ∧ (w9.setCell ⟨B, 1, none⟩ (Value.slice (some ⟨gg2, 0, none⟩) (tl + 1) cap2)).cell? ⟨B, 1, none⟩ = some ((Value.slice (some ⟨gg2, 0, none⟩) (tl + 1) cap2)) ∧ (w9.setCell ⟨B, 1, none⟩ (Value.slice (some ⟨gg2, 0, none⟩) (tl + 1) cap2)).cell? ⟨B, 2, none⟩ = some (v3) ∧ (w9.setCell ⟨B, 1, none⟩ (Value.slice (some ⟨gg2, 0, none⟩) (tl + 1) cap2)).frozen? ⟨B, 0, none⟩ = false ∧ (w9.setCell ⟨B, 1, none⟩ (Value.slice (some ⟨gg2, 0, none⟩) (tl + 1) cap2)).frozen? ⟨B, 1, none⟩ = false ∧ (w9.setCell ⟨B, 1, none⟩ (Value.slice (some ⟨gg2, 0, none⟩) (tl + 1) cap2)).frozen? ⟨B, 2, none⟩ = false from ⟨(World.cell?_setCell_other _ _ _ _ (by simp)).trans t0, World.cell?_setCell_same _ _ _ t1, (World.cell?_setCell_other _ _ _ _ (by simp)).trans t2, by rw [World.frozen?_setCell]; exact t3, by rw [World.frozen?_setCell]; exact t4, by rw [World.frozen?_setCell]; exact t5⟩)
                    have HB10 := Lib.hid (show Below w1.heap.size w1 (w9.setCell ⟨B, 1, none⟩ (Value.slice (some ⟨gg2, 0, none⟩) (tl + 1) cap2)) from HB9.out.setCell (by simp; omega) _)
                    have HBs10 := Lib.hid (show B < (w9.setCell ⟨B, 1, none⟩ (Value.slice (some ⟨gg2, 0, none⟩) (tl + 1) cap2)).heap.size from by rw [size_set]; exact hBw9)
                    have HOK3 := Lib.hid (show ∀ q, q < k + 1 → okP (inn rows zs st (q + 1)) = true from fun q hq => by
                      by_cases e : q = k
                      · rw [e, HIN.out.1]; exact HPT.out
                      · exact HOK.out q (by omega))
                    go_wp2_with fail
                    go_roundw
                    case rel => exact ⟨k + 1, by omega, by first | (rw [HIN.out.2]; done) | (rw [HIN.out.2]; rfl) | (rw [HIN.out.2]; congr 1), by go_num, HOK3, Lib.hid (by rw [HIN.out.1]; exact ⟨_, _, _, _, VS, by rw [← HSP.out.1, HPL.out]; exact HVS.out, HQ10.out, by rw [← HSP.out.1, HSP.out.2.1, HSP.out.2.2.1, HSP.out.2.2.2]; exact HM10.out⟩), HB10, HBs10⟩
                    case measure => simp [intOf]; omega
                  · replace hpl : planeB zz bb = false := by cases e9 : planeB zz bb; rfl; exact absurd e9 hpl
                    have HOKR := Lib.hid (HNO.out (show okP tn = false from by rw [HTU.out]; exact hpl))
                    have HP := Lib.hid (show Calls Try.prog 91 #[.agg #[(.slice p1 zz.length q1), .int .i64 bb]] w5 (RetB false w5) from spec_plane p1 zz q1 bb w5 HON.out.reads (by omega) false (Lib.hid hpl))
                    go_wp2_with fail
                    refine HP.out.mono ?_
                    rintro e w6 ⟨rfl, hb6⟩
                    have HB6 := Lib.hid (HB5.out.trans (hb6.mono hs5))
                    have hs6 := hb6.size
                    replace n0 := cell_below hb6 n0 (by omega)
                    replace n1 := cell_below hb6 n1 (by omega)
                    have HO6 := Lib.hid ((HON.out.below hb6).mono (Nat.le_refl _) hb6.size)
                    clear hb6 HP
                    have HBW := HBq.out.trans (HB6.out.mono hsz2)
                    have x1_0 := cell_below HBW HX.out.2.2.1 (by omega)
                    have x1_1 := cell_below HBW HX.out.2.2.2.1 (by omega)
                    have x1_2 := cell_below HBW HX.out.2.2.2.2.1 (by omega)
                    have f1_0 := fro_below HBW HX.out.2.2.2.2.2.1 (by omega)
                    have f1_1 := fro_below HBW HX.out.2.2.2.2.2.2.1 (by omega)
                    have f1_2 := fro_below HBW HX.out.2.2.2.2.2.2.2 (by omega)
                    go_wp2_with fail
                    refine bodyPost_ret (v := .tuple #[nil3, .bool false]) (by simp [nil3, results, Try.results111, go_sem, x1_0, x1_1, x1_2]) rfl ?_
                    rw [HOKR.out]
                    exact ⟨(((HBC.out.trans (HBW.mono (by omega))).setCell (by simp) _).setCell (by simp) _).setCell (by simp) _, (fun h => by cases h), fun _ => rfl⟩
                exact AllReadyH.nil
              exact AllReadyH.nil
            exact AllReadyH.nil
          · have HOK2 := Lib.hid (show ∀ q, q < k + 1 → okP (inn rows zs st (q + 1)) = true from fun q hq => by
              by_cases e : q = k
              · rw [e, (inn_same hsm).1]; exact HPK.out
              · exact HOK.out q (by omega))
            obtain ⟨bl', off', rp, rq, hab, hbl', hc, hpq, hrow⟩ := (Hhr.out.below HBC.out).at hlt
            obtain ⟨rfl, rfl⟩ : bl = bl' ∧ off = off' := by cases hab; exact ⟨rfl, rfl⟩
            obtain ⟨lb, lo', hlb, hll, hlc⟩ := (Hhz.out.below HBC.out).at (k := k) (by have := HLn.out; omega)
            subst hlb
            have HFt := Lib.hid (st_fit HF.out HPK.out HLE.out k hlt)
            obtain ⟨g1, cap1, hv1, hg1B, hlo1, hg1w, cp0, cp1, hov⟩ := RM.last hrm hvl
            obtain ⟨p, q, hvv, _, _, _⟩ := hov.slice
            subst hv1
            have x0_0 := cell_below hbel HX.out.1 (by omega)
            have x0_1 := cell_below hbel HX.out.2.1 (by omega)
            replace hc := cell_below hbel hc (by omega)
            replace hlc := cell_below hbel hlc (by omega)
            have HRD := Lib.hid (show ints.Reads .i64 wr rp (rows.getD k []) from hrow.below hbel)
            have HRM := Lib.hid hrm
            have HOV := Lib.hid hov
            have HQB := Lib.hid hq
            have y0 := hq.1
            have i1 : (0 : Int) ≤ (k : Int) := by omega
            have i2 : (k : Int) < (rows.length : Int) := by omega
            have i3 : (k : Int) < (zs.length : Int) := by have := HLn.out; omega
            have htrb : (inn rows zs st k).tr.length ≤ 16 * j + 16 := by have := hbd.1; omega
            have hplb : (inn rows zs st k).pl.length ≤ 16 * j + 16 := by have := hbd.2.1; omega
            clear hrow hpq hab hov hq hrm htr hmi
            have HIN := Lib.hid (inn_same hsm)
            have HSD := Lib.hid (show side (inn rows zs st k).p.1 (inn rows zs st k).p.2 (rows.getD k []) = zs.getD k 0 from by simpa [same] using hsm)
            clear hsm
            generalize inn rows zs st k = sn at *
            generalize cn rows zs st k = cnt at *
            obtain ⟨⟨ws, b⟩, smi, str, spl⟩ := sn
            dsimp only at *
            subst hvv
            generalize rows.getD k [] = r at *
            generalize zs.getD k 0 = y at *
            generalize hm9 : spl.length = m at *
            have HM := Lib.hid hm9
            clear hm9
            rw [Nat.mul_comm] at cp0 cp1
            have e1 : IntKind.i64.wrap (m : Int) = (m : Int) := IntWalk.i64_in _ (by omega)
            have i5 : (0 : Int) ≤ (m : Int) := by omega
            have i6 : (m : Int) < (m : Int) + 1 := by omega
            have HT := Lib.hid (show ∀ wa : World, (wa.cell? ⟨w.heap.size, 0, none⟩ = some (.slice (some ⟨bl, off, none⟩) rows.length c) ∧ wa.cell? ⟨w.heap.size, 1, none⟩ = some (.slice (some ⟨lb, lo', none⟩) zs.length c') ∧ wa.cell? ⟨bl, off + k, none⟩ = some (.slice rp r.length rq) ∧ wa.cell? ⟨lb, lo' + k, none⟩ = some (.int .i64 y) ∧ wa.cell? ⟨B, 0, none⟩ = some (.slice (some ⟨g1, 0, none⟩) (m + 1) cap1) ∧ wa.cell? ⟨g1, m * 2, none⟩ = some (.slice p ws.length q) ∧ wa.cell? ⟨g1, m * 2 + 1, none⟩ = some (.int .i64 b) ∧ Below wr.heap.size wr wa) → Calls Try.prog 106 #[.agg #[.slice p ws.length q, .int .i64 b], .slice rp r.length rq, .int .i64 y] wa (fun e w' => e = .returned (.tuple #[.agg #[.slice p ws.length q, .int .i64 b], .bool false]) ∧ Below wa.heap.size wa w' ∧ w'.cell? ⟨w.heap.size, 0, none⟩ = some (.slice (some ⟨bl, off, none⟩) rows.length c) ∧ w'.cell? ⟨w.heap.size, 1, none⟩ = some (.slice (some ⟨lb, lo', none⟩) zs.length c') ∧ w'.cell? ⟨bl, off + k, none⟩ = some (.slice rp r.length rq) ∧ w'.cell? ⟨lb, lo' + k, none⟩ = some (.int .i64 y) ∧ w'.cell? ⟨B, 0, none⟩ = some (.slice (some ⟨g1, 0, none⟩) (m + 1) cap1) ∧ w'.cell? ⟨g1, m * 2, none⟩ = some (.slice p ws.length q) ∧ w'.cell? ⟨g1, m * 2 + 1, none⟩ = some (.int .i64 b) ∧ Below wr.heap.size wr w') from fun wa hS => by
              refine (step.spec_same p ws q b rp r rq y wa (HOV.out.reads.below hS.2.2.2.2.2.2.2) (HRD.out.below hS.2.2.2.2.2.2.2) HFt.out HSD.out).mono ?_
              rintro e w' ⟨rfl, hb⟩
              exact ⟨rfl, hb, cell_below hb hS.1 (by have := hS.2.2.2.2.2.2.2.size; omega), cell_below hb hS.2.1 (by have := hS.2.2.2.2.2.2.2.size; omega), cell_below hb hS.2.2.1 (by have := hS.2.2.2.2.2.2.2.size; omega), cell_below hb hS.2.2.2.1 (by have := hS.2.2.2.2.2.2.2.size; omega), cell_below hb hS.2.2.2.2.1 (by have := hS.2.2.2.2.2.2.2.size; omega), cell_below hb hS.2.2.2.2.2.1 (by have := hS.2.2.2.2.2.2.2.size; omega), cell_below hb hS.2.2.2.2.2.2.1 (by have := hS.2.2.2.2.2.2.2.size; omega), hS.2.2.2.2.2.2.2.trans (hb.mono hS.2.2.2.2.2.2.2.size)⟩)
            have HQL := Lib.hid (show ∀ (W W3 : World) (o : Option Nat) (x1 x2 x3 : Value), (W.cell? ⟨B, 0, none⟩ = some (x1) ∧ W.cell? ⟨B, 1, none⟩ = some (x2) ∧ W.cell? ⟨B, 2, none⟩ = some (x3) ∧ W.frozen? ⟨B, 0, none⟩ = false ∧ W.frozen? ⟨B, 1, none⟩ = false ∧ W.frozen? ⟨B, 2, none⟩ = false) → W.grownBy W3 o → (∀ g, o = some g → g ≠ B) → B < W.heap.size → (W3.cell? ⟨B, 0, none⟩ = some (x1) ∧ W3.cell? ⟨B, 1, none⟩ = some (x2) ∧ W3.cell? ⟨B, 2, none⟩ = some (x3) ∧ W3.frozen? ⟨B, 0, none⟩ = false ∧ W3.frozen? ⟨B, 1, none⟩ = false ∧ W3.frozen? ⟨B, 2, none⟩ = false) from fun W W3 o x1 x2 x3 hQ hg ho hB => by
              have nf : ∀ q, some q = o → q = B → False := fun q e h => ho q e.symm h
              exact ⟨hg.cell hQ.1 (fun e => nf _ e rfl), hg.cell hQ.2.1 (fun e => nf _ e rfl), hg.cell hQ.2.2.1 (fun e => nf _ e rfl), (hg.frozen_far ⟨B, 0, none⟩ hB (fun e => nf _ e rfl)).trans hQ.2.2.2.1, (hg.frozen_far ⟨B, 1, none⟩ hB (fun e => nf _ e rfl)).trans hQ.2.2.2.2.1, (hg.frozen_far ⟨B, 2, none⟩ hB (fun e => nf _ e rfl)).trans hQ.2.2.2.2.2⟩)
            go_wp2_with fail
            refine wp_region_noPanic ?_
            refine wp_region_held_drew (S := fun w' => w'.cell? ⟨w.heap.size, 0, none⟩ = some (.slice (some ⟨bl, off, none⟩) rows.length c) ∧ w'.cell? ⟨w.heap.size, 1, none⟩ = some (.slice (some ⟨lb, lo', none⟩) zs.length c') ∧ w'.cell? ⟨bl, off + k, none⟩ = some (.slice rp r.length rq) ∧ w'.cell? ⟨lb, lo' + k, none⟩ = some (.int .i64 y) ∧ w'.cell? ⟨B, 0, none⟩ = some (.slice (some ⟨g1, 0, none⟩) (m + 1) cap1) ∧ w'.cell? ⟨g1, m * 2, none⟩ = some (.slice p ws.length q) ∧ w'.cell? ⟨g1, m * 2 + 1, none⟩ = some (.int .i64 b) ∧ Below wr.heap.size wr w') (by kernel_rfl) ?_ (fun hHeld => ?_)
            · exact ⟨x0_0, x0_1, hc, hlc, y0, cp0, cp1, (Below.refl _ _).drew⟩
            refine wpAnyH_take (i := 0) (v := ?_) rfl (by kernel_rfl) (by kernel_rfl) (by kernel_rfl) (fun _ _ _ h => h) (Or.inl ⟨by rfl, ?_⟩) (by assumption) ?_
            rotate_left
            · intro w9 hSw; (try dsimp only at hSw); go_simp; try with_reducible rfl
            try simp only [List.getElem_toArray, List.getElem_cons_succ, List.getElem_cons_zero, Act.put, List.setIfInBounds_toArray, List.set_cons_zero, List.set_cons_succ]
            refine wpAnyH_take (i := 1) (v := ?_) rfl (by kernel_rfl) (by kernel_rfl) (by kernel_rfl) (fun _ _ _ h => h) (Or.inl ⟨by rfl, ?_⟩) (by assumption) ?_
            rotate_left
            · intro w9 hSw; (try dsimp only at hSw); go_simp; try with_reducible rfl
            try simp only [List.getElem_toArray, List.getElem_cons_succ, List.getElem_cons_zero, Act.put, List.setIfInBounds_toArray, List.set_cons_zero, List.set_cons_succ]
            refine wpAnyH_take (i := 2) (v := ?_) rfl (by kernel_rfl) (by kernel_rfl) (by kernel_rfl) (fun _ _ _ h => h) (Or.inl ⟨by rfl, ?_⟩) (by assumption) ?_
            rotate_left
            · intro w9 hSw; (try dsimp only at hSw); go_simp; try with_reducible rfl
            try simp only [List.getElem_toArray, List.getElem_cons_succ, List.getElem_cons_zero, Act.put, List.setIfInBounds_toArray, List.set_cons_zero, List.set_cons_succ]
            refine wpAnyH_take (i := 3) (v := ?_) rfl (by kernel_rfl) (by kernel_rfl) (by kernel_rfl) (fun _ _ _ h => h) (Or.inl ⟨by rfl, ?_⟩) (by assumption) ?_
            rotate_left
            · intro w9 hSw; (try dsimp only at hSw); go_simp; try with_reducible rfl
            try simp only [List.getElem_toArray, List.getElem_cons_succ, List.getElem_cons_zero, Act.put, List.setIfInBounds_toArray, List.set_cons_zero, List.set_cons_succ]
            refine wpAnyH_take (i := 4) (v := ?_) rfl (by kernel_rfl) (by kernel_rfl) (by kernel_rfl) (fun _ _ _ h => h) (Or.inl ⟨by rfl, ?_⟩) (by assumption) ?_
            rotate_left
            · intro w9 hSw; (try dsimp only at hSw); go_simp; try with_reducible rfl
            try simp only [List.getElem_toArray, List.getElem_cons_succ, List.getElem_cons_zero, Act.put, List.setIfInBounds_toArray, List.set_cons_zero, List.set_cons_succ]
            refine wpAnyH_take (i := 5) (v := ?_) rfl (by kernel_rfl) (by kernel_rfl) (by kernel_rfl) (fun _ _ _ h => h) (Or.inl ⟨by rfl, ?_⟩) (by assumption) ?_
            rotate_left
            · intro w9 hSw; (try dsimp only at hSw); go_simp; try with_reducible rfl
            try simp only [List.getElem_toArray, List.getElem_cons_succ, List.getElem_cons_zero, Act.put, List.setIfInBounds_toArray, List.set_cons_zero, List.set_cons_succ]
            refine wpAnyH_take (i := 6) (v := ?_) rfl (by kernel_rfl) (by kernel_rfl) (by kernel_rfl) (fun _ _ _ h => h) (Or.inl ⟨by rfl, ?_⟩) (by assumption) ?_
            rotate_left
            · intro w9 hSw; (try dsimp only at hSw); go_simp; try with_reducible rfl
            try simp only [List.getElem_toArray, List.getElem_cons_succ, List.getElem_cons_zero, Act.put, List.setIfInBounds_toArray, List.set_cons_zero, List.set_cons_succ]
            refine wpAnyH_take (i := 7) (v := ?_) rfl (by kernel_rfl) (by kernel_rfl) (by kernel_rfl) (fun _ _ _ h => h) (Or.inl ⟨by rfl, ?_⟩) (by assumption) ?_
            rotate_left
            · intro w9 hSw; (try dsimp only at hSw); go_simp; try with_reducible rfl
            try simp only [List.getElem_toArray, List.getElem_cons_succ, List.getElem_cons_zero, Act.put, List.setIfInBounds_toArray, List.set_cons_zero, List.set_cons_succ]
            refine wpAnyH_take (i := 8) (v := ?_) rfl (by kernel_rfl) (by kernel_rfl) (by kernel_rfl) (fun _ _ _ h => h) (Or.inl ⟨by rfl, ?_⟩) (by assumption) ?_
            rotate_left
            · intro w9 hSw; (try dsimp only at hSw); go_simp; try with_reducible rfl
            try simp only [List.getElem_toArray, List.getElem_cons_succ, List.getElem_cons_zero, Act.put, List.setIfInBounds_toArray, List.set_cons_zero, List.set_cons_succ]
            refine wpAnyH_take (i := 9) (v := ?_) rfl (by kernel_rfl) (by kernel_rfl) (by kernel_rfl) (fun _ _ _ h => h) (Or.inl ⟨by rfl, ?_⟩) (by assumption) ?_
            rotate_left
            · intro w9 hSw; (try dsimp only at hSw); go_simp; try with_reducible rfl
            try simp only [List.getElem_toArray, List.getElem_cons_succ, List.getElem_cons_zero, Act.put, List.setIfInBounds_toArray, List.set_cons_zero, List.set_cons_succ]
            refine wpAnyH_take (i := 10) (v := ?_) rfl (by kernel_rfl) (by kernel_rfl) (by kernel_rfl) (fun _ _ _ h => h) (Or.inl ⟨by rfl, ?_⟩) (by assumption) ?_
            rotate_left
            · intro w9 hSw; (try dsimp only at hSw); go_simp; try with_reducible rfl
            try simp only [List.getElem_toArray, List.getElem_cons_succ, List.getElem_cons_zero, Act.put, List.setIfInBounds_toArray, List.set_cons_zero, List.set_cons_succ]
            refine wpAnyH_take (i := 11) (v := ?_) rfl (by kernel_rfl) (by kernel_rfl) (by kernel_rfl) (fun _ _ _ h => h) (Or.inl ⟨by rfl, ?_⟩) (by assumption) ?_
            rotate_left
            · intro w9 hSw; (try dsimp only at hSw); go_simp; try with_reducible rfl
            try simp only [List.getElem_toArray, List.getElem_cons_succ, List.getElem_cons_zero, Act.put, List.setIfInBounds_toArray, List.set_cons_zero, List.set_cons_succ]
            refine wpAnyH_take (i := 12) (v := ?_) rfl (by kernel_rfl) (by kernel_rfl) (by kernel_rfl) (fun _ _ _ h => h) (Or.inl ⟨by rfl, ?_⟩) (by assumption) ?_
            rotate_left
            · intro w9 hSw; (try dsimp only at hSw); go_simp; try with_reducible rfl
            try simp only [List.getElem_toArray, List.getElem_cons_succ, List.getElem_cons_zero, Act.put, List.setIfInBounds_toArray, List.set_cons_zero, List.set_cons_succ]
            refine wpAnyH_take (i := 13) (v := ?_) rfl (by kernel_rfl) (by kernel_rfl) (by kernel_rfl) (fun _ _ _ h => h) (Or.inl ⟨by rfl, ?_⟩) (by assumption) ?_
            rotate_left
            · intro w9 hSw; (try dsimp only at hSw); go_simp; try with_reducible rfl
            try simp only [List.getElem_toArray, List.getElem_cons_succ, List.getElem_cons_zero, Act.put, List.setIfInBounds_toArray, List.set_cons_zero, List.set_cons_succ]
            refine wpAnyH_take (i := 14) (v := ?_) rfl (by kernel_rfl) (by kernel_rfl) (by kernel_rfl) (fun _ _ _ h => h) (Or.inl ⟨by rfl, ?_⟩) (by assumption) ?_
            rotate_left
            · intro w9 hSw; (try dsimp only at hSw); go_simp; try with_reducible rfl
            try simp only [List.getElem_toArray, List.getElem_cons_succ, List.getElem_cons_zero, Act.put, List.setIfInBounds_toArray, List.set_cons_zero, List.set_cons_succ]
            refine wpAnyH_take (i := 15) (v := ?_) rfl (by kernel_rfl) (by kernel_rfl) (by kernel_rfl) (fun _ _ _ h => h) (Or.inl ⟨by rfl, ?_⟩) (by assumption) ?_
            rotate_left
            · intro w9 hSw; (try dsimp only at hSw); go_simp; try with_reducible rfl
            try simp only [List.getElem_toArray, List.getElem_cons_succ, List.getElem_cons_zero, Act.put, List.setIfInBounds_toArray, List.set_cons_zero, List.set_cons_succ]
            refine wpAnyH_take (i := 16) (v := ?_) rfl (by kernel_rfl) (by kernel_rfl) (by kernel_rfl) (fun _ _ _ h => h) (Or.inl ⟨by rfl, ?_⟩) (by assumption) ?_
            rotate_left
            · intro w9 hSw; (try dsimp only at hSw); go_simp; try with_reducible rfl
            try simp only [List.getElem_toArray, List.getElem_cons_succ, List.getElem_cons_zero, Act.put, List.setIfInBounds_toArray, List.set_cons_zero, List.set_cons_succ]
            refine wpAnyH_take (i := 17) (v := ?_) rfl (by kernel_rfl) (by kernel_rfl) (by kernel_rfl) (fun _ _ _ h => h) (Or.inl ⟨by rfl, ?_⟩) (by assumption) ?_
            rotate_left
            · intro w9 hSw; (try dsimp only at hSw); go_simp; try with_reducible rfl
            try simp only [List.getElem_toArray, List.getElem_cons_succ, List.getElem_cons_zero, Act.put, List.setIfInBounds_toArray, List.set_cons_zero, List.set_cons_succ]
            refine wpAnyH_ready (rs := [18, 22]) (by kernel_rfl) (by simp) ?_
            refine AllReadyH.cons rfl (fun K hK => ?_) ?_
            · go_simp
              refine Calls.mono (HT.out _ ?_) ?_
              · exact hHeld
              clear hHeld
              rintro e va ⟨rfl, hbb, hbx⟩
              have hbxs : wr.heap.size ≤ va.heap.size := hbx.2.2.2.2.2.2.2.size
              refine hK.out _ _ ?_ (fun hHeld => ?_)
              · exact hbx
              clear hK K
              try simp only [List.getElem_toArray, List.getElem_cons_succ, List.getElem_cons_zero, Act.put, List.setIfInBounds_toArray, List.set_cons_zero, List.set_cons_succ]
              refine wpAnyH_take (i := 19) (v := ?_) rfl (by kernel_rfl) (by kernel_rfl) (by kernel_rfl) (fun _ _ _ h => h) (Or.inl ⟨by rfl, ?_⟩) (by assumption) ?_
              rotate_left
              · intro w9 hSw; (try dsimp only at hSw); go_simp; try with_reducible rfl
              try simp only [List.getElem_toArray, List.getElem_cons_succ, List.getElem_cons_zero, Act.put, List.setIfInBounds_toArray, List.set_cons_zero, List.set_cons_succ]
              refine wpAnyH_take (i := 20) (v := ?_) rfl (by kernel_rfl) (by kernel_rfl) (by kernel_rfl) (fun _ _ _ h => h) (Or.inl ⟨by rfl, ?_⟩) (by assumption) ?_
              rotate_left
              · intro w9 hSw; (try dsimp only at hSw); go_simp; try with_reducible rfl
              try simp only [List.getElem_toArray, List.getElem_cons_succ, List.getElem_cons_zero, Act.put, List.setIfInBounds_toArray, List.set_cons_zero, List.set_cons_succ]
              refine wpAnyH_take (i := 21) (v := ?_) rfl (by kernel_rfl) (by kernel_rfl) (by kernel_rfl) (fun _ _ _ h => h) (Or.inl ⟨by rfl, ?_⟩) (by assumption) ?_
              rotate_left
              · intro w9 hSw; (try dsimp only at hSw); go_simp; try with_reducible rfl
              try simp only [List.getElem_toArray, List.getElem_cons_succ, List.getElem_cons_zero, Act.put, List.setIfInBounds_toArray, List.set_cons_zero, List.set_cons_succ]
              refine wpAnyH_ready (rs := [22]) (by kernel_rfl) (by simp) ?_
              refine AllReadyH.cons rfl (fun K hK => ?_) ?_
              · go_simp
                refine hK.out _ _ ?_ (fun hHeld => ?_)
                · exact ⟨cell_old _ hbx.1, cell_old _ hbx.2.1, cell_old _ hbx.2.2.1, cell_old _ hbx.2.2.2.1, cell_old _ hbx.2.2.2.2.1, cell_old _ hbx.2.2.2.2.2.1, cell_old _ hbx.2.2.2.2.2.2.1, hbx.2.2.2.2.2.2.2.alloc hbx.2.2.2.2.2.2.2.size _⟩
                clear hK K
                try simp only [List.getElem_toArray, List.getElem_cons_succ, List.getElem_cons_zero, Act.put, List.setIfInBounds_toArray, List.set_cons_zero, List.set_cons_succ]
                refine wpAnyH_ready (rs := [23]) (by kernel_rfl) (by simp) ?_
                refine AllReadyH.cons rfl (fun K hK => ?_) ?_
                · go_simp
                  refine hK.out _ _ ?_ (fun hHeld => ?_)
                  · exact ⟨cell_old _ hbx.1, cell_old _ hbx.2.1, cell_old _ hbx.2.2.1, cell_old _ hbx.2.2.2.1, cell_old _ hbx.2.2.2.2.1, cell_old _ hbx.2.2.2.2.2.1, cell_old _ hbx.2.2.2.2.2.2.1, hbx.2.2.2.2.2.2.2.alloc hbx.2.2.2.2.2.2.2.size _⟩
                  clear hK K
                  try simp only [List.getElem_toArray, List.getElem_cons_succ, List.getElem_cons_zero, Act.put, List.setIfInBounds_toArray, List.set_cons_zero, List.set_cons_succ]
                  refine wpAnyH_take (i := 24) (v := ?_) rfl (by kernel_rfl) (by kernel_rfl) (by kernel_rfl) (fun _ _ _ h => h) (Or.inl ⟨by rfl, ?_⟩) (by assumption) ?_
                  rotate_left
                  · intro w9 hSw; (try dsimp only at hSw); go_simp; try with_reducible rfl
                  try simp only [List.getElem_toArray, List.getElem_cons_succ, List.getElem_cons_zero, Act.put, List.setIfInBounds_toArray, List.set_cons_zero, List.set_cons_succ]
                  refine wpAnyH_done (by kernel_rfl) ?_ _
                  refine NoPanic.normal ?_
                  have HN5 := Lib.hid (show (va.alloc (.cells #[(.slice p ws.length q), (.int .i64 b)] 46)).cell? ⟨va.heap.size, 0, none⟩ = some (.slice p ws.length q) ∧ (va.alloc (.cells #[(.slice p ws.length q), (.int .i64 b)] 46)).cell? ⟨va.heap.size, 1, none⟩ = some (.int .i64 b) from ⟨cell_new _ _ _ rfl rfl, cell_new _ _ _ rfl rfl⟩)
                  have HB5 := Lib.hid hHeld.2.2.2.2.2.2.2
                  have hNB : wr.heap.size ≤ va.heap.size ∧ va.heap.size < (va.alloc (.cells #[(.slice p ws.length q), (.int .i64 b)] 46)).heap.size := ⟨by have := hbx.2.2.2.2.2.2.2.size; omega, by first | (simp; done) | (have := hbb.size; simp at this ⊢; omega)⟩
                  clear hHeld hbx hbb HT hbxs
                  generalize (va.alloc (.cells #[(.slice p ws.length q), (.int .i64 b)] 46)) = w5 at *
                  generalize va.heap.size = NB at *
                  have n0 := HN5.out.1
                  have n1 := HN5.out.2
                  have hs5 := HB5.out.size
                  have HP := Lib.hid (show Calls Try.prog 91 #[.agg #[(.slice p ws.length q), (.int .i64 b)]] w5 (RetB true w5) from spec_plane p ws q b w5 (HOV.out.reads.below HB5.out) (by have := HFt.out.le; omega) true HPK)
                  go_wp2_with fail
                  refine HP.out.mono ?_
                  rintro e w6 ⟨rfl, hb6⟩
                  have HB6 := Lib.hid (HB5.out.trans (hb6.mono hs5))
                  have hs6 := hb6.size
                  clear hb6
                  go_wp2_with fail
                  go_roundw
                  case rel => exact ⟨k + 1, by omega, by rw [HIN.out.2], by go_num, HOK2, Lib.hid (by rw [HIN.out.1]; exact ⟨_, _, _, _, _, (HM.out ▸ hvl), ⟨cell_below HB6.out HQB.out.1 hbz, cell_below HB6.out HQB.out.2.1 hbz, cell_below HB6.out HQB.out.2.2.1 hbz, fro_below HB6.out HQB.out.2.2.2.1 hbz, fro_below HB6.out HQB.out.2.2.2.2.1 hbz, fro_below HB6.out HQB.out.2.2.2.2.2 hbz⟩, HRM.out.below HB6.out⟩), Lib.hid (HBq.out.trans (HB6.out.mono hsz2)), Lib.hid (by omega)⟩
                  case measure => simp [intOf]; omega
                exact AllReadyH.nil
              exact AllReadyH.nil
            refine AllReadyH.cons rfl (fun K hK => ?_) ?_
            · go_simp
              refine hK.out _ _ ?_ (fun hHeld => ?_)
              · exact ⟨cell_old _ x0_0, cell_old _ x0_1, cell_old _ hc, cell_old _ hlc, cell_old _ y0, cell_old _ cp0, cell_old _ cp1, ((Below.refl _ _).drew.alloc (Nat.le_refl _) _)⟩
              clear hK K
              try simp only [List.getElem_toArray, List.getElem_cons_succ, List.getElem_cons_zero, Act.put, List.setIfInBounds_toArray, List.set_cons_zero, List.set_cons_succ]
              refine wpAnyH_ready (rs := [18]) (by kernel_rfl) (by simp) ?_
              refine AllReadyH.cons rfl (fun K hK => ?_) ?_
              · go_simp
                refine Calls.mono (HT.out _ ?_) ?_
                · exact hHeld
                clear hHeld
                rintro e va ⟨rfl, hbb, hbx⟩
                refine hK.out _ _ ?_ (fun hHeld => ?_)
                · exact hbx
                clear hK K
                try simp only [List.getElem_toArray, List.getElem_cons_succ, List.getElem_cons_zero, Act.put, List.setIfInBounds_toArray, List.set_cons_zero, List.set_cons_succ]
                have y8 := cell_below hbb (show (wr.drew.alloc (.cells #[.slice none 0 0, .int .i64 0] 46)).cell? ⟨wr.heap.size, 0, none⟩ = some (.slice none 0 0) from cell_new _ _ _ rfl rfl) (by simp)
                have y9 := cell_below hbb (show (wr.drew.alloc (.cells #[.slice none 0 0, .int .i64 0] 46)).cell? ⟨wr.heap.size, 1, none⟩ = some (.int .i64 0) from cell_new _ _ _ rfl rfl) (by simp)
                have z8 := fro_below hbb (show (wr.drew.alloc (.cells #[.slice none 0 0, .int .i64 0] 46)).frozen? ⟨wr.heap.size, 0, none⟩ = false from fro_new _ _ _ rfl) (by simp)
                have z9 := fro_below hbb (show (wr.drew.alloc (.cells #[.slice none 0 0, .int .i64 0] 46)).frozen? ⟨wr.heap.size, 1, none⟩ = false from fro_new _ _ _ rfl) (by simp)
                refine wpAnyH_take (i := 19) (v := ?_) rfl (by kernel_rfl) (by kernel_rfl) (by kernel_rfl) (fun _ _ _ h => h) (Or.inl ⟨by rfl, ?_⟩) (by assumption) ?_
                rotate_left
                · intro w9 hSw; (try dsimp only at hSw); go_simp; try with_reducible rfl
                try simp only [List.getElem_toArray, List.getElem_cons_succ, List.getElem_cons_zero, Act.put, List.setIfInBounds_toArray, List.set_cons_zero, List.set_cons_succ]
                refine wpAnyH_take (i := 20) (v := ?_) rfl (by kernel_rfl) (by kernel_rfl) (by kernel_rfl) (fun _ _ _ h => h) (Or.inl ⟨by rfl, ?_⟩) (by assumption) ?_
                rotate_left
                · intro w9 hSw; (try dsimp only at hSw); go_simp; try with_reducible rfl
                try simp only [List.getElem_toArray, List.getElem_cons_succ, List.getElem_cons_zero, Act.put, List.setIfInBounds_toArray, List.set_cons_zero, List.set_cons_succ]
                refine wpAnyH_take (i := 21) (v := ?_) rfl (by kernel_rfl) (by kernel_rfl) (by kernel_rfl) (fun _ _ _ h => h) (Or.inl ⟨by rfl, ?_⟩) (by assumption) ?_
                rotate_left
                · intro w9 hSw; (try dsimp only at hSw); go_simp; try with_reducible rfl
                try simp only [List.getElem_toArray, List.getElem_cons_succ, List.getElem_cons_zero, Act.put, List.setIfInBounds_toArray, List.set_cons_zero, List.set_cons_succ]
                refine wpAnyH_ready (rs := [23]) (by kernel_rfl) (by simp) ?_
                refine AllReadyH.cons rfl (fun K hK => ?_) ?_
                · go_simp
                  refine hK.out _ _ ?_ (fun hHeld => ?_)
                  · exact ⟨cell_set (cell_set hbx.1 (by first | (simp; done) | (simp; omega) | omega) _) (by first | (simp; done) | (simp; omega) | omega) _, cell_set (cell_set hbx.2.1 (by first | (simp; done) | (simp; omega) | omega) _) (by first | (simp; done) | (simp; omega) | omega) _, cell_set (cell_set hbx.2.2.1 (by first | (simp; done) | (simp; omega) | omega) _) (by first | (simp; done) | (simp; omega) | omega) _, cell_set (cell_set hbx.2.2.2.1 (by first | (simp; done) | (simp; omega) | omega) _) (by first | (simp; done) | (simp; omega) | omega) _, cell_set (cell_set hbx.2.2.2.2.1 (by first | (simp; done) | (simp; omega) | omega) _) (by first | (simp; done) | (simp; omega) | omega) _, cell_set (cell_set hbx.2.2.2.2.2.1 (by first | (simp; done) | (simp; omega) | omega) _) (by first | (simp; done) | (simp; omega) | omega) _, cell_set (cell_set hbx.2.2.2.2.2.2.1 (by first | (simp; done) | (simp; omega) | omega) _) (by first | (simp; done) | (simp; omega) | omega) _, (hbx.2.2.2.2.2.2.2.setCell (by simp) _).setCell (by simp) _⟩
                  clear hK K
                  try simp only [List.getElem_toArray, List.getElem_cons_succ, List.getElem_cons_zero, Act.put, List.setIfInBounds_toArray, List.set_cons_zero, List.set_cons_succ]
                  refine wpAnyH_take (i := 24) (v := ?_) rfl (by kernel_rfl) (by kernel_rfl) (by kernel_rfl) (fun _ _ _ h => h) (Or.inl ⟨by rfl, ?_⟩) (by assumption) ?_
                  rotate_left
                  · intro w9 hSw; (try dsimp only at hSw); go_simp; try with_reducible rfl
                  try simp only [List.getElem_toArray, List.getElem_cons_succ, List.getElem_cons_zero, Act.put, List.setIfInBounds_toArray, List.set_cons_zero, List.set_cons_succ]
                  refine wpAnyH_done (by kernel_rfl) ?_ _
                  refine NoPanic.normal ?_
                  have HN5 := Lib.hid (show ((va.setCell ⟨wr.heap.size, 0, none⟩ (.slice p ws.length q)).setCell ⟨wr.heap.size, 1, none⟩ (.int .i64 b)).cell? ⟨wr.heap.size, 0, none⟩ = some (.slice p ws.length q) ∧ ((va.setCell ⟨wr.heap.size, 0, none⟩ (.slice p ws.length q)).setCell ⟨wr.heap.size, 1, none⟩ (.int .i64 b)).cell? ⟨wr.heap.size, 1, none⟩ = some (.int .i64 b) from ⟨(World.cell?_setCell_other _ _ _ _ (by simp)).trans (World.cell?_setCell_same _ _ _ y8), World.cell?_setCell_same _ _ _ ((World.cell?_setCell_other _ _ _ _ (by simp)).trans y9)⟩)
                  have HB5 := Lib.hid hHeld.2.2.2.2.2.2.2
                  have hNB : wr.heap.size ≤ wr.heap.size ∧ wr.heap.size < ((va.setCell ⟨wr.heap.size, 0, none⟩ (.slice p ws.length q)).setCell ⟨wr.heap.size, 1, none⟩ (.int .i64 b)).heap.size := ⟨by have := hbx.2.2.2.2.2.2.2.size; omega, by first | (simp; done) | (have := hbb.size; simp at this ⊢; omega)⟩
                  clear hHeld hbx hbb HT y8 y9 z8 z9
                  generalize ((va.setCell ⟨wr.heap.size, 0, none⟩ (.slice p ws.length q)).setCell ⟨wr.heap.size, 1, none⟩ (.int .i64 b)) = w5 at *
                  have n0 := HN5.out.1
                  have n1 := HN5.out.2
                  have hs5 := HB5.out.size
                  have HP := Lib.hid (show Calls Try.prog 91 #[.agg #[(.slice p ws.length q), (.int .i64 b)]] w5 (RetB true w5) from spec_plane p ws q b w5 (HOV.out.reads.below HB5.out) (by have := HFt.out.le; omega) true HPK)
                  go_wp2_with fail
                  refine HP.out.mono ?_
                  rintro e w6 ⟨rfl, hb6⟩
                  have HB6 := Lib.hid (HB5.out.trans (hb6.mono hs5))
                  have hs6 := hb6.size
                  clear hb6
                  go_wp2_with fail
                  go_roundw
                  case rel => exact ⟨k + 1, by omega, by rw [HIN.out.2], by go_num, HOK2, Lib.hid (by rw [HIN.out.1]; exact ⟨_, _, _, _, _, (HM.out ▸ hvl), ⟨cell_below HB6.out HQB.out.1 hbz, cell_below HB6.out HQB.out.2.1 hbz, cell_below HB6.out HQB.out.2.2.1 hbz, fro_below HB6.out HQB.out.2.2.2.1 hbz, fro_below HB6.out HQB.out.2.2.2.2.1 hbz, fro_below HB6.out HQB.out.2.2.2.2.2 hbz⟩, HRM.out.below HB6.out⟩), Lib.hid (HBq.out.trans (HB6.out.mono hsz2)), Lib.hid (by omega)⟩
                  case measure => simp [intOf]; omega
                exact AllReadyH.nil
              exact AllReadyH.nil
            exact AllReadyH.nil
        · obtain rfl : k = rows.length := by omega
          skip
          by_cases h0 : cn rows zs st rows.length = 0
          · obtain ⟨y0, y1, y2, y3, y4, y5⟩ := hq
            have HRM := Lib.hid hrm
            clear hrm
            have HQL := Lib.hid (show ∀ (W W3 : World) (o : Option Nat) (x1 x2 x3 : Value), (W.cell? ⟨B, 0, none⟩ = some (x1) ∧ W.cell? ⟨B, 1, none⟩ = some (x2) ∧ W.cell? ⟨B, 2, none⟩ = some (x3) ∧ W.frozen? ⟨B, 0, none⟩ = false ∧ W.frozen? ⟨B, 1, none⟩ = false ∧ W.frozen? ⟨B, 2, none⟩ = false) → W.grownBy W3 o → (∀ g, o = some g → g ≠ B) → B < W.heap.size → (W3.cell? ⟨B, 0, none⟩ = some (x1) ∧ W3.cell? ⟨B, 1, none⟩ = some (x2) ∧ W3.cell? ⟨B, 2, none⟩ = some (x3) ∧ W3.frozen? ⟨B, 0, none⟩ = false ∧ W3.frozen? ⟨B, 1, none⟩ = false ∧ W3.frozen? ⟨B, 2, none⟩ = false) from fun W W3 o x1 x2 x3 hQ hg ho hB => by
              have nf : ∀ q, some q = o → q = B → False := fun q e h => ho q e.symm h
              exact ⟨hg.cell hQ.1 (fun e => nf _ e rfl), hg.cell hQ.2.1 (fun e => nf _ e rfl), hg.cell hQ.2.2.1 (fun e => nf _ e rfl), (hg.frozen_far ⟨B, 0, none⟩ hB (fun e => nf _ e rfl)).trans hQ.2.2.2.1, (hg.frozen_far ⟨B, 1, none⟩ hB (fun e => nf _ e rfl)).trans hQ.2.2.2.2.1, (hg.frozen_far ⟨B, 2, none⟩ hB (fun e => nf _ e rfl)).trans hQ.2.2.2.2.2⟩)
            have hmi9 : (inn rows zs st rows.length).mi.length ≤ j := by rw [inn_mi]; exact hbd.2.2.1
            have HOKT := Lib.hid (okTo_of HOK.out)
            have HSTEP := Lib.hid (show okR rows zs (R : Int) = true ∧ fin rows zs (R : Int) = rnd rows zs st from by
              rw [HEQ.out.1, HEQ.out.2, show R - j = (R - (j + 1)) + 1 from by omega]
              exact run_stop HOKT.out h0)
            have HRN := Lib.hid (show (rnd rows zs st).p = (inn rows zs st rows.length).p ∧ (rnd rows zs st).tr = (inn rows zs st rows.length).tr ∧ (rnd rows zs st).pl = (inn rows zs st rows.length).pl ∧ (rnd rows zs st).mi = (inn rows zs st rows.length).mi ++ [(cn rows zs st rows.length : Int)] from ⟨rfl, rfl, rfl, by rw [inn_mi]; rfl⟩)
            have HBD2 := Lib.hid (show (rnd rows zs st).tr.length ≤ 16 * (j + 1) ∧ (rnd rows zs st).pl.length ≤ 16 * (j + 1) ∧ (rnd rows zs st).mi.length ≤ j + 1 ∧ (rnd rows zs st).p.1.length = r0.length from ⟨by rw [HRN.out.2.1]; omega, by rw [HRN.out.2.2.1]; omega, by rw [HRN.out.2.2.2, List.length_append, List.length_singleton]; omega, by rw [HRN.out.1, HLE.out]; exact HR0.out ▸ rfl⟩)
            have HPS2 := Lib.hid (show okP (rnd rows zs st) = true from HPK.out)
            have g9 : ((cn rows zs st rows.length : Int) == 0) = true := by rw [h0]; rfl
            generalize (inn rows zs st rows.length) = sn at *
            generalize rnd rows zs st = rs at *
            generalize cn rows zs st rows.length = cnt at *
            have xh := cell_below HBq.out HX.out.1 (by omega)
            generalize hml : sn.mi.length = ml at hmi9
            have HML := Lib.hid hml
            clear hml h0
            have HO3 := Lib.hid (show wr.ownsRow w1.heap.size 3 1 v3 ml (sn.mi.map (Value.int .i64)) from by have := HRM.out.own3.1; rw [HML.out] at this; exact this)
            go_wp2_with (at_builtin; refine wpList_append_lies _ rfl _ _ 23 rfl w1.heap.size 3 iI (.int .i64 0) 1 8 Try.underlying23 hi' hz0' hz1' hz2' rfl (by decide) v3 ml (sn.mi.map (Value.int .i64)) rfl (HO3.out.alloc _) ⟨wr.heap.size, 0, none⟩ 1 1 [.int .i64 (cnt : Int)] rfl rfl (World.news_of_block (cs := #[.int .i64 (cnt : Int)]) (t := 3) (fr := (0, 0)) (heap_alloc_new wr _)) (by simp [Value.oneCell']) (by omega) (by unfold maxLen; omega) (by omega) (by simp; omega) (wr.heap.size + 1) (by simp) ?_; intro gg cap w5 hown5 hgrow5 hat5 hlt5; refine Hid.out ?_)
            refine Lib.hid ?_
            have HM5 := Lib.hid (RM.mist HRM.out hgrow5 (by rw [HML.out]; exact hown5) hat5 hbz)
            obtain ⟨t0, t1, t2, t3, t4, t5⟩ := HQL.out _ _ _ _ _ _ (show (wr.alloc (.cells #[.int .i64 (cnt : Int)] 3)).cell? ⟨B, 0, none⟩ = some (v1) ∧ (wr.alloc (.cells #[.int .i64 (cnt : Int)] 3)).cell? ⟨B, 1, none⟩ = some (v2) ∧ (wr.alloc (.cells #[.int .i64 (cnt : Int)] 3)).cell? ⟨B, 2, none⟩ = some (v3) ∧ (wr.alloc (.cells #[.int .i64 (cnt : Int)] 3)).frozen? ⟨B, 0, none⟩ = false ∧ (wr.alloc (.cells #[.int .i64 (cnt : Int)] 3)).frozen? ⟨B, 1, none⟩ = false ∧ (wr.alloc (.cells #[.int .i64 (cnt : Int)] 3)).frozen? ⟨B, 2, none⟩ = false from ⟨cell_old _ (show wr.cell? ⟨B, 0, none⟩ = some (v1) ∧ wr.cell? ⟨B, 1, none⟩ = some (v2) ∧ wr.cell? ⟨B, 2, none⟩ = some (v3) ∧ wr.frozen? ⟨B, 0, none⟩ = false ∧ wr.frozen? ⟨B, 1, none⟩ = false ∧ wr.frozen? ⟨B, 2, none⟩ = false from ⟨y0, y1, y2, y3, y4, y5⟩).1, cell_old _ (show wr.cell? ⟨B, 0, none⟩ = some (v1) ∧ wr.cell? ⟨B, 1, none⟩ = some (v2) ∧ wr.cell? ⟨B, 2, none⟩ = some (v3) ∧ wr.frozen? ⟨B, 0, none⟩ = false ∧ wr.frozen? ⟨B, 1, none⟩ = false ∧ wr.frozen? ⟨B, 2, none⟩ = false from ⟨y0, y1, y2, y3, y4, y5⟩).2.1, cell_old _ (show wr.cell? ⟨B, 0, none⟩ = some (v1) ∧ wr.cell? ⟨B, 1, none⟩ = some (v2) ∧ wr.cell? ⟨B, 2, none⟩ = some (v3) ∧ wr.frozen? ⟨B, 0, none⟩ = false ∧ wr.frozen? ⟨B, 1, none⟩ = false ∧ wr.frozen? ⟨B, 2, none⟩ = false from ⟨y0, y1, y2, y3, y4, y5⟩).2.2.1, fro_old _ (by omega) (show wr.cell? ⟨B, 0, none⟩ = some (v1) ∧ wr.cell? ⟨B, 1, none⟩ = some (v2) ∧ wr.cell? ⟨B, 2, none⟩ = some (v3) ∧ wr.frozen? ⟨B, 0, none⟩ = false ∧ wr.frozen? ⟨B, 1, none⟩ = false ∧ wr.frozen? ⟨B, 2, none⟩ = false from ⟨y0, y1, y2, y3, y4, y5⟩).2.2.2.1, fro_old _ (by omega) (show wr.cell? ⟨B, 0, none⟩ = some (v1) ∧ wr.cell? ⟨B, 1, none⟩ = some (v2) ∧ wr.cell? ⟨B, 2, none⟩ = some (v3) ∧ wr.frozen? ⟨B, 0, none⟩ = false ∧ wr.frozen? ⟨B, 1, none⟩ = false ∧ wr.frozen? ⟨B, 2, none⟩ = false from ⟨y0, y1, y2, y3, y4, y5⟩).2.2.2.2.1, fro_old _ (by omega) (show wr.cell? ⟨B, 0, none⟩ = some (v1) ∧ wr.cell? ⟨B, 1, none⟩ = some (v2) ∧ wr.cell? ⟨B, 2, none⟩ = some (v3) ∧ wr.frozen? ⟨B, 0, none⟩ = false ∧ wr.frozen? ⟨B, 1, none⟩ = false ∧ wr.frozen? ⟨B, 2, none⟩ = false from ⟨y0, y1, y2, y3, y4, y5⟩).2.2.2.2.2⟩) hgrow5 HRM.out.own3.2 (by simp; omega)
            have HB5 := Lib.hid ((HBq.out.alloc (by omega) (.cells #[.int .i64 (cnt : Int)] 3)).grown hgrow5 (by simp; omega) (fun g e => (HRM.out.own3.1.lt g e).1))
            have hs5 := HB5.out.size
            have hBw5 : B < w5.heap.size := Nat.lt_of_lt_of_le hbz (Nat.le_trans (by simp) hgrow5.size)
            clear hown5 hat5 y0 y1 y2 y3 y4 y5 xh
            have HM6 := Lib.hid (show RM w1.heap.size B (w5.setCell ⟨B, 2, none⟩ (Value.slice (some ⟨gg, 0, none⟩) (ml + 1) cap)) v1 v2 (Value.slice (some ⟨gg, 0, none⟩) (ml + 1) cap) (vs ++ [v]) (rs.pl ++ [rs.p]) rs.tr rs.mi from by rw [HRN.out.1, HRN.out.2.1, HRN.out.2.2.1, HRN.out.2.2.2, ← HML.out]; exact HM5.out.set 2 _)
            have HQ6 := Lib.hid (show (w5.setCell ⟨B, 2, none⟩ (Value.slice (some ⟨gg, 0, none⟩) (ml + 1) cap)).cell? ⟨B, 0, none⟩ = some (v1) ∧ (w5.setCell ⟨B, 2, none⟩ (Value.slice (some ⟨gg, 0, none⟩) (ml + 1) cap)).cell? ⟨B, 1, none⟩ = some (v2) ∧ (w5.setCell ⟨B, 2, none⟩ (Value.slice (some ⟨gg, 0, none⟩) (ml + 1) cap)).cell? ⟨B, 2, none⟩ = some ((Value.slice (some ⟨gg, 0, none⟩) (ml + 1) cap)) ∧ (w5.setCell ⟨B, 2, none⟩ (Value.slice (some ⟨gg, 0, none⟩) (ml + 1) cap)).frozen? ⟨B, 0, none⟩ = false ∧ (w5.setCell ⟨B, 2, none⟩ (Value.slice (some ⟨gg, 0, none⟩) (ml + 1) cap)).frozen? ⟨B, 1, none⟩ = false ∧ (w5.setCell ⟨B, 2, none⟩ (Value.slice (some ⟨gg, 0, none⟩) (ml + 1) cap)).frozen? ⟨B, 2, none⟩ = false from ⟨(World.cell?_setCell_other _ _ _ _ (by simp)).trans t0, (World.cell?_setCell_other _ _ _ _ (by simp)).trans t1, World.cell?_setCell_same _ _ _ t2, by rw [World.frozen?_setCell]; exact t3, by rw [World.frozen?_setCell]; exact t4, by rw [World.frozen?_setCell]; exact t5⟩)
            have HB6 := Lib.hid (show Below w1.heap.size w1 (w5.setCell ⟨B, 2, none⟩ (Value.slice (some ⟨gg, 0, none⟩) (ml + 1) cap)) from HB5.out.setCell (by simp; omega) _)
            have HBs6 := Lib.hid (show B < (w5.setCell ⟨B, 2, none⟩ (Value.slice (some ⟨gg, 0, none⟩) (ml + 1) cap)).heap.size from by rw [size_set]; exact hBw5)
            replace hvl : vs.length = rs.pl.length := by rw [HRN.out.2.2.1]; exact hvl
            have HOKR := Lib.hid HSTEP.out.1
            have HFIN := Lib.hid HSTEP.out.2
            obtain ⟨p1, n1, q1, hf1⟩ : ∃ p1 n1 q1, v1 = .slice p1 n1 q1 := by
              obtain ⟨g1, cap1, e, _⟩ := RM.last HM6.out hvl
              exact ⟨_, _, _, e⟩
            obtain ⟨p2, n2, q2, hf2⟩ : ∃ p2 n2 q2, v2 = .slice p2 n2 q2 := by
              obtain ⟨a9, c9, e, _⟩ := (OwnI.of HM6.out.own2.1).slice
              exact ⟨_, _, _, e⟩
            subst hf1 hf2
            have x1_0 := cell_below HB5.out HX.out.2.2.1 (by omega)
            have x1_1 := cell_below HB5.out HX.out.2.2.2.1 (by omega)
            have x1_2 := cell_below HB5.out HX.out.2.2.2.2.1 (by omega)
            have f1_0 := fro_below HB5.out HX.out.2.2.2.2.2.1 (by omega)
            have f1_1 := fro_below HB5.out HX.out.2.2.2.2.2.2.1 (by omega)
            have f1_2 := fro_below HB5.out HX.out.2.2.2.2.2.2.2 (by omega)
            go_wp2_with fail
            refine bodyPost_ret (v := .tuple #[.agg #[.slice p1 n1 q1, .slice p2 n2 q2, .slice (some ⟨gg, 0, none⟩) (ml + 1) cap], .bool true]) (by simp [results, Try.results111, go_sem, x1_0, x1_1, x1_2]) rfl ?_
            rw [HOKR.out, HFIN.out]
            exact ⟨(((HBC.out.trans (HB6.out.mono (by omega))).setCell (by simp) _).setCell (by simp) _).setCell (by simp) _, fun _ => ⟨_, _, _, _, _, w1.heap.size, B, rfl, hvl, by omega, RM.setLow (RM.setLow (RM.setLow HM6.out (by simp; omega) _) (by simp; omega) _) (by simp; omega) _⟩, fun h => by cases h⟩
          · obtain ⟨y0, y1, y2, y3, y4, y5⟩ := hq
            have HRM := Lib.hid hrm
            clear hrm
            have HQL := Lib.hid (show ∀ (W W3 : World) (o : Option Nat) (x1 x2 x3 : Value), (W.cell? ⟨B, 0, none⟩ = some (x1) ∧ W.cell? ⟨B, 1, none⟩ = some (x2) ∧ W.cell? ⟨B, 2, none⟩ = some (x3) ∧ W.frozen? ⟨B, 0, none⟩ = false ∧ W.frozen? ⟨B, 1, none⟩ = false ∧ W.frozen? ⟨B, 2, none⟩ = false) → W.grownBy W3 o → (∀ g, o = some g → g ≠ B) → B < W.heap.size → (W3.cell? ⟨B, 0, none⟩ = some (x1) ∧ W3.cell? ⟨B, 1, none⟩ = some (x2) ∧ W3.cell? ⟨B, 2, none⟩ = some (x3) ∧ W3.frozen? ⟨B, 0, none⟩ = false ∧ W3.frozen? ⟨B, 1, none⟩ = false ∧ W3.frozen? ⟨B, 2, none⟩ = false) from fun W W3 o x1 x2 x3 hQ hg ho hB => by
              have nf : ∀ q, some q = o → q = B → False := fun q e h => ho q e.symm h
              exact ⟨hg.cell hQ.1 (fun e => nf _ e rfl), hg.cell hQ.2.1 (fun e => nf _ e rfl), hg.cell hQ.2.2.1 (fun e => nf _ e rfl), (hg.frozen_far ⟨B, 0, none⟩ hB (fun e => nf _ e rfl)).trans hQ.2.2.2.1, (hg.frozen_far ⟨B, 1, none⟩ hB (fun e => nf _ e rfl)).trans hQ.2.2.2.2.1, (hg.frozen_far ⟨B, 2, none⟩ hB (fun e => nf _ e rfl)).trans hQ.2.2.2.2.2⟩)
            have hmi9 : (inn rows zs st rows.length).mi.length ≤ j := by rw [inn_mi]; exact hbd.2.2.1
            have HOKT := Lib.hid (okTo_of HOK.out)
            have HSTEP := Lib.hid (show okR rows zs (R : Int) = okRun rows zs (R - (j + 1)) (rnd rows zs st) ∧ fin rows zs (R : Int) = endRun rows zs (R - (j + 1)) (rnd rows zs st) from by
              rw [HEQ.out.1, HEQ.out.2, show R - j = (R - (j + 1)) + 1 from by omega]
              exact run_on HOKT.out h0)
            have HRN := Lib.hid (show (rnd rows zs st).p = (inn rows zs st rows.length).p ∧ (rnd rows zs st).tr = (inn rows zs st rows.length).tr ∧ (rnd rows zs st).pl = (inn rows zs st rows.length).pl ∧ (rnd rows zs st).mi = (inn rows zs st rows.length).mi ++ [(cn rows zs st rows.length : Int)] from ⟨rfl, rfl, rfl, by rw [inn_mi]; rfl⟩)
            have HBD2 := Lib.hid (show (rnd rows zs st).tr.length ≤ 16 * (j + 1) ∧ (rnd rows zs st).pl.length ≤ 16 * (j + 1) ∧ (rnd rows zs st).mi.length ≤ j + 1 ∧ (rnd rows zs st).p.1.length = r0.length from ⟨by rw [HRN.out.2.1]; omega, by rw [HRN.out.2.2.1]; omega, by rw [HRN.out.2.2.2, List.length_append, List.length_singleton]; omega, by rw [HRN.out.1, HLE.out]; exact HR0.out ▸ rfl⟩)
            have HPS2 := Lib.hid (show okP (rnd rows zs st) = true from HPK.out)
            have g9 : ((cn rows zs st rows.length : Int) == 0) = false := by rw [beq_eq_false_iff_ne]; omega
            generalize (inn rows zs st rows.length) = sn at *
            generalize rnd rows zs st = rs at *
            generalize cn rows zs st rows.length = cnt at *
            have xh := cell_below HBq.out HX.out.1 (by omega)
            generalize hml : sn.mi.length = ml at hmi9
            have HML := Lib.hid hml
            clear hml h0
            have HO3 := Lib.hid (show wr.ownsRow w1.heap.size 3 1 v3 ml (sn.mi.map (Value.int .i64)) from by have := HRM.out.own3.1; rw [HML.out] at this; exact this)
            go_wp2_with (at_builtin; refine wpList_append_lies _ rfl _ _ 23 rfl w1.heap.size 3 iI (.int .i64 0) 1 8 Try.underlying23 hi' hz0' hz1' hz2' rfl (by decide) v3 ml (sn.mi.map (Value.int .i64)) rfl (HO3.out.alloc _) ⟨wr.heap.size, 0, none⟩ 1 1 [.int .i64 (cnt : Int)] rfl rfl (World.news_of_block (cs := #[.int .i64 (cnt : Int)]) (t := 3) (fr := (0, 0)) (heap_alloc_new wr _)) (by simp [Value.oneCell']) (by omega) (by unfold maxLen; omega) (by omega) (by simp; omega) (wr.heap.size + 1) (by simp) ?_; intro gg cap w5 hown5 hgrow5 hat5 hlt5; refine Hid.out ?_)
            refine Lib.hid ?_
            have HM5 := Lib.hid (RM.mist HRM.out hgrow5 (by rw [HML.out]; exact hown5) hat5 hbz)
            obtain ⟨t0, t1, t2, t3, t4, t5⟩ := HQL.out _ _ _ _ _ _ (show (wr.alloc (.cells #[.int .i64 (cnt : Int)] 3)).cell? ⟨B, 0, none⟩ = some (v1) ∧ (wr.alloc (.cells #[.int .i64 (cnt : Int)] 3)).cell? ⟨B, 1, none⟩ = some (v2) ∧ (wr.alloc (.cells #[.int .i64 (cnt : Int)] 3)).cell? ⟨B, 2, none⟩ = some (v3) ∧ (wr.alloc (.cells #[.int .i64 (cnt : Int)] 3)).frozen? ⟨B, 0, none⟩ = false ∧ (wr.alloc (.cells #[.int .i64 (cnt : Int)] 3)).frozen? ⟨B, 1, none⟩ = false ∧ (wr.alloc (.cells #[.int .i64 (cnt : Int)] 3)).frozen? ⟨B, 2, none⟩ = false from ⟨cell_old _ (show wr.cell? ⟨B, 0, none⟩ = some (v1) ∧ wr.cell? ⟨B, 1, none⟩ = some (v2) ∧ wr.cell? ⟨B, 2, none⟩ = some (v3) ∧ wr.frozen? ⟨B, 0, none⟩ = false ∧ wr.frozen? ⟨B, 1, none⟩ = false ∧ wr.frozen? ⟨B, 2, none⟩ = false from ⟨y0, y1, y2, y3, y4, y5⟩).1, cell_old _ (show wr.cell? ⟨B, 0, none⟩ = some (v1) ∧ wr.cell? ⟨B, 1, none⟩ = some (v2) ∧ wr.cell? ⟨B, 2, none⟩ = some (v3) ∧ wr.frozen? ⟨B, 0, none⟩ = false ∧ wr.frozen? ⟨B, 1, none⟩ = false ∧ wr.frozen? ⟨B, 2, none⟩ = false from ⟨y0, y1, y2, y3, y4, y5⟩).2.1, cell_old _ (show wr.cell? ⟨B, 0, none⟩ = some (v1) ∧ wr.cell? ⟨B, 1, none⟩ = some (v2) ∧ wr.cell? ⟨B, 2, none⟩ = some (v3) ∧ wr.frozen? ⟨B, 0, none⟩ = false ∧ wr.frozen? ⟨B, 1, none⟩ = false ∧ wr.frozen? ⟨B, 2, none⟩ = false from ⟨y0, y1, y2, y3, y4, y5⟩).2.2.1, fro_old _ (by omega) (show wr.cell? ⟨B, 0, none⟩ = some (v1) ∧ wr.cell? ⟨B, 1, none⟩ = some (v2) ∧ wr.cell? ⟨B, 2, none⟩ = some (v3) ∧ wr.frozen? ⟨B, 0, none⟩ = false ∧ wr.frozen? ⟨B, 1, none⟩ = false ∧ wr.frozen? ⟨B, 2, none⟩ = false from ⟨y0, y1, y2, y3, y4, y5⟩).2.2.2.1, fro_old _ (by omega) (show wr.cell? ⟨B, 0, none⟩ = some (v1) ∧ wr.cell? ⟨B, 1, none⟩ = some (v2) ∧ wr.cell? ⟨B, 2, none⟩ = some (v3) ∧ wr.frozen? ⟨B, 0, none⟩ = false ∧ wr.frozen? ⟨B, 1, none⟩ = false ∧ wr.frozen? ⟨B, 2, none⟩ = false from ⟨y0, y1, y2, y3, y4, y5⟩).2.2.2.2.1, fro_old _ (by omega) (show wr.cell? ⟨B, 0, none⟩ = some (v1) ∧ wr.cell? ⟨B, 1, none⟩ = some (v2) ∧ wr.cell? ⟨B, 2, none⟩ = some (v3) ∧ wr.frozen? ⟨B, 0, none⟩ = false ∧ wr.frozen? ⟨B, 1, none⟩ = false ∧ wr.frozen? ⟨B, 2, none⟩ = false from ⟨y0, y1, y2, y3, y4, y5⟩).2.2.2.2.2⟩) hgrow5 HRM.out.own3.2 (by simp; omega)
            have HB5 := Lib.hid ((HBq.out.alloc (by omega) (.cells #[.int .i64 (cnt : Int)] 3)).grown hgrow5 (by simp; omega) (fun g e => (HRM.out.own3.1.lt g e).1))
            have hs5 := HB5.out.size
            have hBw5 : B < w5.heap.size := Nat.lt_of_lt_of_le hbz (Nat.le_trans (by simp) hgrow5.size)
            clear hown5 hat5 y0 y1 y2 y3 y4 y5 xh
            have HM6 := Lib.hid (show RM w1.heap.size B (w5.setCell ⟨B, 2, none⟩ (Value.slice (some ⟨gg, 0, none⟩) (ml + 1) cap)) v1 v2 (Value.slice (some ⟨gg, 0, none⟩) (ml + 1) cap) (vs ++ [v]) (rs.pl ++ [rs.p]) rs.tr rs.mi from by rw [HRN.out.1, HRN.out.2.1, HRN.out.2.2.1, HRN.out.2.2.2, ← HML.out]; exact HM5.out.set 2 _)
            have HQ6 := Lib.hid (show (w5.setCell ⟨B, 2, none⟩ (Value.slice (some ⟨gg, 0, none⟩) (ml + 1) cap)).cell? ⟨B, 0, none⟩ = some (v1) ∧ (w5.setCell ⟨B, 2, none⟩ (Value.slice (some ⟨gg, 0, none⟩) (ml + 1) cap)).cell? ⟨B, 1, none⟩ = some (v2) ∧ (w5.setCell ⟨B, 2, none⟩ (Value.slice (some ⟨gg, 0, none⟩) (ml + 1) cap)).cell? ⟨B, 2, none⟩ = some ((Value.slice (some ⟨gg, 0, none⟩) (ml + 1) cap)) ∧ (w5.setCell ⟨B, 2, none⟩ (Value.slice (some ⟨gg, 0, none⟩) (ml + 1) cap)).frozen? ⟨B, 0, none⟩ = false ∧ (w5.setCell ⟨B, 2, none⟩ (Value.slice (some ⟨gg, 0, none⟩) (ml + 1) cap)).frozen? ⟨B, 1, none⟩ = false ∧ (w5.setCell ⟨B, 2, none⟩ (Value.slice (some ⟨gg, 0, none⟩) (ml + 1) cap)).frozen? ⟨B, 2, none⟩ = false from ⟨(World.cell?_setCell_other _ _ _ _ (by simp)).trans t0, (World.cell?_setCell_other _ _ _ _ (by simp)).trans t1, World.cell?_setCell_same _ _ _ t2, by rw [World.frozen?_setCell]; exact t3, by rw [World.frozen?_setCell]; exact t4, by rw [World.frozen?_setCell]; exact t5⟩)
            have HB6 := Lib.hid (show Below w1.heap.size w1 (w5.setCell ⟨B, 2, none⟩ (Value.slice (some ⟨gg, 0, none⟩) (ml + 1) cap)) from HB5.out.setCell (by simp; omega) _)
            have HBs6 := Lib.hid (show B < (w5.setCell ⟨B, 2, none⟩ (Value.slice (some ⟨gg, 0, none⟩) (ml + 1) cap)).heap.size from by rw [size_set]; exact hBw5)
            replace hvl : vs.length = rs.pl.length := by rw [HRN.out.2.2.1]; exact hvl
            go_wp2_with fail
            go_roundw
            case rel => exact ⟨j + 1, rs, by omega, by go_num, HSTEP, HPS2, HBD2, Lib.hid ⟨_, _, _, _, _, hvl, HQ6.out, HM6.out⟩, HB6, HBs6⟩
            case measure => simp [intOf]; omega
    · obtain rfl : j = R := by omega
      obtain ⟨v1, v2, v3, v, vs, hvl, hq, hrm⟩ := HS.out
      clear HS
      have HOKR := Lib.hid (show okR rows zs (j : Int) = true from by rw [HEQ.out.1, Nat.sub_self]; rfl)
      have HFIN := Lib.hid (show fin rows zs (j : Int) = st from by rw [HEQ.out.2, Nat.sub_self]; rfl)
      obtain ⟨p1, n1, q1, hf1⟩ : ∃ p1 n1 q1, v1 = .slice p1 n1 q1 := by
        obtain ⟨g1, cap1, e, _⟩ := RM.last hrm hvl
        exact ⟨_, _, _, e⟩
      obtain ⟨p2, n2, q2, hf2⟩ : ∃ p2 n2 q2, v2 = .slice p2 n2 q2 := by
        obtain ⟨a9, c9, e, _⟩ := (OwnI.of hrm.own2.1).slice
        exact ⟨_, _, _, e⟩
      obtain ⟨p3, n3, q3, hf3⟩ : ∃ p3 n3 q3, v3 = .slice p3 n3 q3 := by
        obtain ⟨a9, c9, e, _⟩ := (OwnI.of hrm.own3.1).slice
        exact ⟨_, _, _, e⟩
      subst hf1 hf2 hf3
      obtain ⟨y0, y1, y2, _, _, _⟩ := hq
      have HRM := Lib.hid hrm
      clear hrm
      have x1_0 := cell_below HBl.out HX.out.2.2.1 (by omega)
      have x1_1 := cell_below HBl.out HX.out.2.2.2.1 (by omega)
      have x1_2 := cell_below HBl.out HX.out.2.2.2.2.1 (by omega)
      have f1_0 := fro_below HBl.out HX.out.2.2.2.2.2.1 (by omega)
      have f1_1 := fro_below HBl.out HX.out.2.2.2.2.2.2.1 (by omega)
      have f1_2 := fro_below HBl.out HX.out.2.2.2.2.2.2.2 (by omega)
      go_wp2_with fail
      refine bodyPost_ret (v := .tuple #[.agg #[.slice p1 n1 q1, .slice p2 n2 q2, .slice p3 n3 q3], .bool true]) (by simp [results, Try.results111, go_sem, x1_0, x1_1, x1_2]) rfl ?_
      rw [HOKR.out, HFIN.out]
      exact ⟨(((HBC.out.trans (HBl.out.mono (by omega))).setCell (by simp) _).setCell (by simp) _).setCell (by simp) _, fun _ => ⟨_, _, _, _, _, w1.heap.size, B, rfl, hvl, by omega, RM.setLow (RM.setLow (RM.setLow HRM.out (by simp; omega) _) (by simp; omega) _) (by simp; omega) _⟩, fun h => by cases h⟩
end Go.Proofs.Ytocbklmkphgkeaa.made
