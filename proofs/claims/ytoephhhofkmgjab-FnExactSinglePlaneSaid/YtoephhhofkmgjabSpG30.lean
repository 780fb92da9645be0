/- Several texts in one. -/
import Derived.Deep.DrawnRows
import Derived.Deep.RegionHeld3
import Derived.Test.YtoephhhofkmgjabSpG29
import Derived.Test.YtoephhhofkmgjabShelf
import Derived.Test.YtoephhhofkmgjabSpG6
import Derived.Test.YtoephhhofkmgjabSpG21
namespace Go.Proofs.Ytoephhhofkmgjab.margin
open Go.RowKit own pp nums samplesv samplest dots both sides
set_option linter.unusedVariables false
set_option linter.unusedSimpArgs false
attribute [local go_sem ↓] Go.wp_at_zero Go.wp_at_succ

theorem infoInt : (Try.prog.info? 3).map (fun i => (i.zero, i.size, i.bytes)) = some (some (.int .i64 0), 1, 8) := by kernel_rfl

/-- The margin of a plane at a point with a label. -/
def mg (ws : List Int) (b : Int) (xs : List Int) (y : Int) : Int := y * (2 * dot ws xs - 2 * b + 1)
def mgAt (rows : List (List Int)) (zs ws : List Int) (b : Int) (k : Nat) : Int := mg ws b (rows.getD k []) (zs.getD k 0)
def mgs (rows : List (List Int)) (zs ws : List Int) (b : Int) (k : Nat) : List Int := (List.range k).map (mgAt rows zs ws b)
/-- The least of the first k. -/
def leastTo (rows : List (List Int)) (zs ws : List Int) (b : Int) : Nat → Int
  | 0 => 0
  | k + 1 => if k = 0 ∨ mgAt rows zs ws b k < leastTo rows zs ws b k then mgAt rows zs ws b k else leastTo rows zs ws b k
theorem cell_set {w : World} {b o : Nat} {x : Value} (h : w.cell? ⟨b, o, none⟩ = some x) {a : Addr} (hb : b ≠ a.block) (u : Value) : (w.setCell a u).cell? ⟨b, o, none⟩ = some x :=
  (World.cell?_of_block (Below.heap_setCell _ _ _ _ hb)).trans h
theorem reads_at {w : World} {b off : Nat} {zs : List Int} (h : ints.Reads .i64 w (some ⟨b, off, none⟩) zs) : ∀ j, j < zs.length → w.cell? ⟨b, off + j, none⟩ = some (.int .i64 (zs.getD j 0)) := by
  rcases h with rfl | ⟨b', off', e, _, h⟩
  · intro j hj; simp at hj
  · cases e; exact h
theorem mgs_length (rows : List (List Int)) (zs ws : List Int) (b : Int) (k : Nat) : (mgs rows zs ws b k).length = k := by simp [mgs]
theorem mgs_succ (rows : List (List Int)) (zs ws : List Int) (b : Int) (k : Nat) : mgs rows zs ws b (k + 1) = mgs rows zs ws b k ++ [mgAt rows zs ws b k] := by simp [mgs, List.range_succ]
theorem mgs_getD (rows : List (List Int)) (zs ws : List Int) (b : Int) (n k : Nat) (h : k < n) : (mgs rows zs ws b n).getD k 0 = mgAt rows zs ws b k := by
  rw [List.getD_eq_getElem?_getD]; simp [mgs, h]
theorem mgs_fold (rows : List (List Int)) (zs ws : List Int) (b : Int) (k : Nat) : (mgs rows zs ws b (k + 1)).foldl min (mgAt rows zs ws b 0) = leastTo rows zs ws b (k + 1) := by
  induction k with
  | zero => simp [mgs, leastTo, List.range_succ]
  | succ k ih =>
    rw [mgs_succ, List.foldl_append, ih]
    show min (leastTo rows zs ws b (k + 1)) (mgAt rows zs ws b (k + 1)) = if k + 1 = 0 ∨ mgAt rows zs ws b (k + 1) < leastTo rows zs ws b (k + 1) then mgAt rows zs ws b (k + 1) else leastTo rows zs ws b (k + 1)
    rw [Int.min_def]
    split <;> split <;> omega
theorem mgs_min (rows : List (List Int)) (zs ws : List Int) (b : Int) (n : Nat) (h : 0 < n) : Lib.minOf (mgs rows zs ws b n) = leastTo rows zs ws b n := by
  obtain ⟨k, rfl⟩ : ∃ k, n = k + 1 := ⟨n - 1, by omega⟩
  rw [← mgs_fold]
  unfold Lib.minOf
  congr 1
  simp [mgs, List.range_succ_eq_map]

/-- The bounds of a product at a point of a sample that the plane suits. -/
def DotBd (rows : List (List Int)) (zs ws : List Int) : Prop := ∀ k, k < rows.length → (-3564 ≤ dot ws (rows.getD k []) ∧ dot ws (rows.getD k []) ≤ 3564) ∧ (zs.getD k 0 = 1 ∨ zs.getD k 0 = -1)
theorem dot_bd4 {ws xs : List Int} (hA : numsB 99 ws = true) (hB : numsB 9 xs = true) (hl : ws.length ≤ 4) (he : ws.length ≤ xs.length) : -3564 ≤ dot ws xs ∧ dot ws xs ≤ 3564 := by
  have hb : ∀ k, k ≤ ws.length → -(891 * (k : Int)) ≤ dotTo ws xs k ∧ dotTo ws xs k ≤ 891 * (k : Int) := by
    intro k
    induction k with
    | zero => intro _; simp [dotTo_zero]
    | succ k ih =>
      intro hk
      have h1 := ih (by omega)
      have h2 := numsB_at hA k (by omega)
      have h3 := numsB_at hB k (by omega)
      have h4 := mul_bd h2.1 h2.2 h3.1 h3.2
      rw [dotTo_succ]
      omega
  have := hb ws.length (Nat.le_refl _)
  unfold dot
  omega
theorem bd_of {rows : List (List Int)} {zs ws : List Int} {b : Int} (h : bothB rows zs ws b = true) : DotBd rows zs ws := by
  obtain ⟨h1, h2, h3⟩ := (bothB_iff _ _ _ _).1 h
  obtain ⟨s1, s2, s3, s4⟩ := (sampleB_iff _ _).1 h1
  obtain ⟨p1, p2, p3, p4⟩ := (planeB_iff _ _).1 h2
  intro k hk
  have hr := all_at _ [] rows s4 k hk
  simp only [Bool.and_eq_true, decide_eq_true_eq] at hr
  have hl : (rows.getD k []).length = ws.length := by rcases h3 with h3 | h3 <;> omega
  refine ⟨dot_bd4 p3 ((pointB_iff _).1 hr.1).2.2 p2 (by omega), ?_⟩
  have := all_at _ 0 zs s3 k (by omega)
  exact (labelB_iff _).1 this
theorem plane_b {rows : List (List Int)} {zs ws : List Int} {b : Int} (h : bothB rows zs ws b = true) : -99 ≤ b ∧ b ≤ 99 := (inB_iff _ _).1 ((planeB_iff _ _).1 ((bothB_iff _ _ _ _).1 h).2.1).2.2.2


/-- A sample with points and a plane that suits it. -/
def mB (rows : List (List Int)) (zs ws : List Int) (b : Int) : Bool := bothB rows zs ws b && decide (0 < rows.length)
theorem mB_iff (rows : List (List Int)) (zs ws : List Int) (b : Int) : mB rows zs ws b = true ↔ bothB rows zs ws b = true ∧ 0 < rows.length := by simp [mB]

/-- A sample with points. -/
def hpB (rows : List (List Int)) (zs : List Int) : Bool := sampleB rows zs && decide (0 < rows.length)
theorem hpB_iff (rows : List (List Int)) (zs : List Int) : hpB rows zs = true ↔ sampleB rows zs = true ∧ 0 < rows.length := by simp [hpB]

/-- The first k margins, then zeros. -/
def filled (rows : List (List Int)) (zs ws : List Int) (b : Int) (n k : Nat) : List Value := (mgs rows zs ws b k).map (Value.int .i64) ++ List.replicate (n - k) (.int .i64 0)
theorem filled_zero (rows : List (List Int)) (zs ws : List Int) (b : Int) (n : Nat) : filled rows zs ws b n 0 = List.replicate n (.int .i64 0) := by simp [filled, mgs]
theorem filled_all (rows : List (List Int)) (zs ws : List Int) (b : Int) (n : Nat) : filled rows zs ws b n n = (mgs rows zs ws b n).map (Value.int .i64) := by simp [filled]
theorem filled_succ (rows : List (List Int)) (zs ws : List Int) (b : Int) (n k : Nat) (h : k < n) : (filled rows zs ws b n k).set k (.int .i64 (mgAt rows zs ws b k)) = filled rows zs ws b n (k + 1) := by
  unfold filled
  rw [List.set_append, if_neg (by simp [mgs_length]), show n - k = (n - (k + 1)) + 1 by omega, List.replicate_succ, List.length_map, mgs_length, Nat.sub_self, List.set_cons_zero, mgs_succ, List.map_append, List.append_assoc]
  rfl
theorem filled_at (rows : List (List Int)) (zs ws : List Int) (b : Int) (n k : Nat) (h : k < n) : (filled rows zs ws b n k)[k]? = some (.int .i64 0) := by
  unfold filled
  rw [List.getElem?_append_right (by simp [mgs_length]), List.getElem?_replicate, if_pos (by simp [mgs_length]; omega)]
end Go.Proofs.Ytoephhhofkmgjab.margin

namespace Go.Proofs.Ytoephhhofkmgjab.ends
open Go.RowKit own pp nums samplesv samplest dots both sides margin most
set_option linter.unusedVariables false
set_option linter.unusedSimpArgs false
attribute [local go_sem ↓] Go.wp_at_zero Go.wp_at_succ

/-- The least product of weights and one of the first k points with the label 1, and the greatest with another one. -/
def lowTo (rows : List (List Int)) (zs ws : List Int) (L : Int) : Nat → Int
  | 0 => L
  | k + 1 => if zs.getD k 0 = 1 then min (lowTo rows zs ws L k) (dot ws (rows.getD k [])) else lowTo rows zs ws L k
def highTo (rows : List (List Int)) (zs ws : List Int) (H : Int) : Nat → Int
  | 0 => H
  | k + 1 => if zs.getD k 0 = 1 then highTo rows zs ws H k else max (highTo rows zs ws H k) (dot ws (rows.getD k []))
theorem low_bd (rows : List (List Int)) (zs ws : List Int) (L : Int) (hL : 3564 ≤ L) (k : Nat) (h : ∀ j, j < k → -3564 ≤ dot ws (rows.getD j []) ∧ dot ws (rows.getD j []) ≤ 3564) : -3564 ≤ lowTo rows zs ws L k ∧ lowTo rows zs ws L k ≤ L := by
  induction k with
  | zero => unfold lowTo; omega
  | succ k ih =>
    have h1 := ih fun j hj => h j (by omega)
    have h2 := h k (by omega)
    unfold lowTo
    split <;> omega
theorem high_bd (rows : List (List Int)) (zs ws : List Int) (H : Int) (hH : H ≤ -3564) (k : Nat) (h : ∀ j, j < k → -3564 ≤ dot ws (rows.getD j []) ∧ dot ws (rows.getD j []) ≤ 3564) : H ≤ highTo rows zs ws H k ∧ highTo rows zs ws H k ≤ 3564 := by
  induction k with
  | zero => unfold highTo; omega
  | succ k ih =>
    have h1 := ih fun j hj => h j (by omega)
    have h2 := h k (by omega)
    unfold highTo
    split <;> omega
theorem low_eq (rows : List (List Int)) (zs ws : List Int) (L L' : Int) (hL : 3564 ≤ L) (hL' : 3564 ≤ L') (k : Nat) (h : ∀ j, j < k → -3564 ≤ dot ws (rows.getD j []) ∧ dot ws (rows.getD j []) ≤ 3564) :
    ((∀ j, j < k → zs.getD j 0 ≠ 1) ∧ lowTo rows zs ws L k = L ∧ lowTo rows zs ws L' k = L') ∨ (lowTo rows zs ws L k = lowTo rows zs ws L' k ∧ lowTo rows zs ws L k ≤ 3564) := by
  induction k with
  | zero => left; exact ⟨fun j hj => by omega, rfl, rfl⟩
  | succ k ih =>
    have h1 := ih fun j hj => h j (by omega)
    have h2 := h k (by omega)
    unfold lowTo
    by_cases e : zs.getD k 0 = 1
    · rw [if_pos e, if_pos e]
      right
      rcases h1 with ⟨_, a, b⟩ | ⟨a, b⟩
      · rw [a, b]; omega
      · rw [← a]; omega
    · rw [if_neg e, if_neg e]
      rcases h1 with ⟨c, a, b⟩ | h1
      · left
        refine ⟨fun j hj => ?_, a, b⟩
        by_cases ej : j = k
        · rw [ej]; exact e
        · exact c j (by omega)
      · right; exact h1
theorem high_eq (rows : List (List Int)) (zs ws : List Int) (H H' : Int) (hH : H ≤ -3564) (hH' : H' ≤ -3564) (k : Nat) (h : ∀ j, j < k → -3564 ≤ dot ws (rows.getD j []) ∧ dot ws (rows.getD j []) ≤ 3564) :
    ((∀ j, j < k → zs.getD j 0 = 1) ∧ highTo rows zs ws H k = H ∧ highTo rows zs ws H' k = H') ∨ (highTo rows zs ws H k = highTo rows zs ws H' k ∧ -3564 ≤ highTo rows zs ws H k) := by
  induction k with
  | zero => left; exact ⟨fun j hj => by omega, rfl, rfl⟩
  | succ k ih =>
    have h1 := ih fun j hj => h j (by omega)
    have h2 := h k (by omega)
    unfold highTo
    by_cases e : zs.getD k 0 = 1
    · rw [if_pos e, if_pos e]
      rcases h1 with ⟨c, a, b⟩ | h1
      · left
        refine ⟨fun j hj => ?_, a, b⟩
        by_cases ej : j = k
        · rw [ej]; exact e
        · exact c j (by omega)
      · right; exact h1
    · rw [if_neg e, if_neg e]
      right
      rcases h1 with ⟨_, a, b⟩ | ⟨a, b⟩
      · rw [a, b]; omega
      · rw [← a]; omega

def RetNN (n m : Int) (w : World) (e : Ending) (w' : World) : Prop := e = .returned (.tuple #[.int .i64 n, .int .i64 m]) ∧ Below w.heap.size w w'
set_option maxRecDepth 100000 in
set_option maxHeartbeats 4000000 in
theorem impl_edges (a : Option Addr) (rows : List (List Int)) (c : Nat) (a' : Option Addr) (zs : List Int) (c' : Nat) (p : Option Addr) (ws : List Int) (q : Nat) (w : World) (hr : grid.Reads w a rows) (hz : ints.Reads .i64 w a' zs) (hq : ints.Reads .i64 w p ws) (hl : zs.length = rows.length) (hn : rows.length ≤ 16) (hm : ws.length ≤ 1048576) (hF : RowsFit rows ws) (hD : DotBd rows zs ws) :
    Calls Try.prog 119 #[.agg #[.slice a rows.length c, .slice a' zs.length c'], .slice p ws.length q] w (RetNN (highTo rows zs ws (-9223372036854775808) rows.length) (lowTo rows zs ws 9223372036854775807 rows.length) w) := by
  have HL := Lib.hid hl
  have HF := Lib.hid hF
  have HD := Lib.hid hD
  clear hl hF hD
  have Hhr := Lib.hid hr
  have Hhz := Lib.hid hz
  have Hhq := Lib.hid hq
  clear hr hz hq
  go_enter Try.func119, Try.ntmps119
  go_wp2_with fail
  have x0_0 : (w.alloc (.cells #[.slice a rows.length c, .slice a' zs.length c'] 56)).cell? ⟨w.heap.size, 0, none⟩ = some (.slice a rows.length c) := cell_new _ _ _ (by simp) rfl
  have x0_1 : (w.alloc (.cells #[.slice a rows.length c, .slice a' zs.length c'] 56)).cell? ⟨w.heap.size, 1, none⟩ = some (.slice a' zs.length c') := cell_new _ _ _ (by simp) rfl
  have HB0 := Lib.hid (below_alloc w (.cells #[.slice a rows.length c, .slice a' zs.length c'] 56))
  have s0 : w.heap.size + 1 ≤ (w.alloc (.cells #[.slice a rows.length c, .slice a' zs.length c'] 56)).heap.size := by simp
  generalize hw : (w.alloc (.cells #[.slice a rows.length c, .slice a' zs.length c'] 56)) = w0 at *
  clear hw
  have n0_0 : w.heap.size < w0.heap.size := by omega
  have HX := Lib.hid (show w0.cell? ⟨w.heap.size, 0, none⟩ = some (.slice a rows.length c) ∧ w0.cell? ⟨w.heap.size, 1, none⟩ = some (.slice a' zs.length c') from ⟨x0_0, x0_1⟩)
  clear x0_0 x0_1
  go_loopw [6, 7, 13] (fun hi lo i wr => ∃ (k : Nat), k ≤ rows.length ∧ i = .int .i64 k ∧ lo = .int .i64 (lowTo rows zs ws (9223372036854775807) k) ∧ hi = .int .i64 (highTo rows zs ws (-9223372036854775808) k) ∧ Below w0.heap.size w0 wr) (fun _ _ i _ => rows.length - (intOf i).toNat)
  case atStart => exact ⟨0, Nat.zero_le _, rfl, rfl, rfl, Below.refl _ _⟩
  case round =>
    obtain ⟨k, hk, rfl, rfl, rfl, hbel⟩ := hrel
    have x0_0 := cell_below hbel HX.out.1 (by omega)
    have x0_1 := cell_below hbel HX.out.2 (by omega)
    have HBl := Lib.hid hbel
    by_cases hlt : k < rows.length
    · obtain ⟨bl, off, rp, rq, hab, hbl, hc, hpq, hrow⟩ := (Hhr.out.below HB0.out).at hlt
      subst hab
      obtain ⟨lb, lo, hlb, hll, hlc⟩ := (Hhz.out.below HB0.out).at (k := k) (by have := HL.out; omega)
      subst hlb
      replace hc := cell_below hbel hc (by omega)
      replace hlc := cell_below hbel hlc (by omega)
      have hFk := HF.out k hlt
      obtain ⟨⟨d1, d2⟩, hy⟩ := HD.out k hlt
      have hlw := low_bd rows zs ws (9223372036854775807) (by decide) k (fun j hj => (HD.out j (by omega)).1)
      have hhw := high_bd rows zs ws (-9223372036854775808) (by decide) k (fun j hj => (HD.out j (by omega)).1)
      have HC := Lib.hid (show ∀ m : Nat, Calls Try.prog 137 #[.slice p ws.length q, .slice rp (rows.getD k []).length rq] (wr.drewN m) (Tells (dot ws (rows.getD k [])) (wr.drewN m)) from fun m => impl_dot p ws q rp _ rq _ (Hhq.out.below (ints.below_drewN (HB0.out.trans (HBl.out.mono (by omega))) m)) (hrow.below (ints.below_drewN HBl.out m)) hm (by omega) (by omega) hFk.2)
      have HC0 := Lib.hid (show Calls Try.prog 137 #[.slice p ws.length q, .slice rp (rows.getD k []).length rq] wr (Tells (dot ws (rows.getD k [])) wr) from HC.out 0)
      have i1 : (0 : Int) ≤ (k : Int) := by omega
      have i2 : (k : Int) < (rows.length : Int) := by omega
      have i3 : (k : Int) < (zs.length : Int) := by have := HL.out; omega
      have HLo := Lib.hid (show lowTo rows zs ws (9223372036854775807) (k + 1) = if zs.getD k 0 = 1 then min (lowTo rows zs ws (9223372036854775807) k) (dot ws (rows.getD k [])) else lowTo rows zs ws (9223372036854775807) k from rfl)
      have HHi := Lib.hid (show highTo rows zs ws (-9223372036854775808) (k + 1) = if zs.getD k 0 = 1 then highTo rows zs ws (-9223372036854775808) k else max (highTo rows zs ws (-9223372036854775808) k) (dot ws (rows.getD k [])) from rfl)
      clear hrow hpq hFk hbel
      generalize rows.getD k [] = r at *
      generalize zs.getD k 0 = z at *
      generalize dot ws r = d at *
      generalize lowTo rows zs ws (9223372036854775807) k = l at *
      generalize highTo rows zs ws (-9223372036854775808) k = h at *
      rcases hy with rfl | rfl
      · have HL2 := Lib.hid (show lowTo rows zs ws (9223372036854775807) (k + 1) = min l d from HLo.out.trans (if_pos rfl))
        have HH2 := Lib.hid (show highTo rows zs ws (-9223372036854775808) (k + 1) = h from HHi.out.trans (if_pos rfl))
        go_wp2_with fail
        refine HC0.out.mono ?_
        rintro e w' ⟨rfl, m, rfl⟩
        have HBm := Lib.hid (ints.below_drewN HBl.out m)
        generalize wr.drewN m = wm at *
        go_wp2_with fail
        go_roundw
        case rel => exact ⟨k + 1, by omega, by go_num, by rw [HL2.out], by rw [HH2.out], HBm.out⟩
        case measure => simp [intOf]; omega
      · have HL2 := Lib.hid (show lowTo rows zs ws (9223372036854775807) (k + 1) = l from HLo.out.trans (if_neg (by decide)))
        have HH2 := Lib.hid (show highTo rows zs ws (-9223372036854775808) (k + 1) = max h d from HHi.out.trans (if_neg (by decide)))
        go_wp2_with fail
        refine HC0.out.mono ?_
        rintro e w' ⟨rfl, m, rfl⟩
        have HBm := Lib.hid (ints.below_drewN HBl.out m)
        generalize wr.drewN m = wm at *
        go_wp2_with fail
        go_roundw
        case rel => exact ⟨k + 1, by omega, by go_num, by rw [HL2.out], by rw [HH2.out], HBm.out⟩
        case measure => simp [intOf]; omega
    · obtain rfl : k = rows.length := by omega
      have HBE := Lib.hid (HB0.out.trans (HBl.out.mono (by omega)))
      clear hbel
      go_wp2_with fail
      go_ret2
      exact ⟨rfl, HBE.out⟩
end Go.Proofs.Ytoephhhofkmgjab.ends

namespace Go.Proofs.Ytoephhhofkmgjab.boundw
open Go.RowKit own pp nums samplesv samplest sides margin ends pointswith
set_option linter.unusedVariables false
set_option linter.unusedSimpArgs false

def hi (rows : List (List Int)) (zs ws : List Int) : Int := highTo rows zs ws (-9223372036854775808) rows.length
def lo (rows : List (List Int)) (zs ws : List Int) : Int := lowTo rows zs ws 9223372036854775807 rows.length
def bnd (rows : List (List Int)) (zs ws : List Int) : Int := if hi rows zs ws < lo rows zs ws then (if (placesTo (hasL zs 1) zs.length).length = 0 then hi rows zs ws + 1 else lo rows zs ws) else 0
set_option maxRecDepth 100000 in
set_option maxHeartbeats 4000000 in
theorem impl_bound (a : Option Addr) (rows : List (List Int)) (c : Nat) (a' : Option Addr) (zs : List Int) (c' : Nat) (p : Option Addr) (ws : List Int) (q : Nat) (w : World) (hr : grid.Reads w a rows) (hz : ints.Reads .i64 w a' zs) (hq : ints.Reads .i64 w p ws) (hl : zs.length = rows.length) (hn : rows.length ≤ 16) (hm : ws.length ≤ 1048576) (hF : RowsFit rows ws) (hD : DotBd rows zs ws) (hS : sampleB rows zs = true) (hbd : (placesTo (hasL zs 1) zs.length).length = 0 → hi rows zs ws ≤ 1048576) :
    Calls Try.prog 85 #[.agg #[.slice a rows.length c, .slice a' zs.length c'], .slice p ws.length q] w ((RetNB (bnd rows zs ws) (decide (hi rows zs ws < lo rows zs ws)) w)) := by
  have hm' : ∀ r ∈ rows, r.length ≤ 1048576 := by
    intro r hr'
    obtain ⟨k, hk, rfl⟩ := List.mem_iff_getElem.1 hr'
    have := (hF k hk).1
    rw [List.getD_eq_getElem?_getD, List.getElem?_eq_getElem hk] at this
    simp at this
    omega
  have HE := Lib.hid (fun (W : World) (hb : Below w.heap.size w W) => impl_edges a rows c a' zs c' p ws q W (hr.below hb) (hz.below hb) (hq.below hb) hl hn hm hF hD)
  have HP := Lib.hid (fun (W : World) (hb : Below w.heap.size w W) => pointswith.impl_yes a rows c a' zs c' 1 W (hr.below hb) (hz.below hb) (by omega) (by omega) hm' (Lib.hid (by rw [swB, hS]; rfl)))
  have HB := Lib.hid hbd
  have HBN := Lib.hid (show bnd rows zs ws = if hi rows zs ws < lo rows zs ws then (if (placesTo (hasL zs 1) zs.length).length = 0 then hi rows zs ws + 1 else lo rows zs ws) else 0 from rfl)
  change Hid (∀ W, Below w.heap.size w W → Calls Try.prog 119 #[.agg #[.slice a rows.length c, .slice a' zs.length c'], .slice p ws.length q] W (RetNN (hi rows zs ws) (lo rows zs ws) W)) at HE
  have hlo : -9223372036854775808 ≤ hi rows zs ws := by
    unfold hi
    clear HE HP HB HBN hbd
    have : ∀ k, -9223372036854775808 ≤ highTo rows zs ws (-9223372036854775808) k := by
      intro k
      induction k with
      | zero => unfold highTo; omega
      | succ k ih => unfold highTo; split <;> omega
    exact this _
  clear hr hz hq hF hD hS hbd hl hn hm hm'
  generalize hi rows zs ws = H at *
  generalize lo rows zs ws = L at *
  generalize bnd rows zs ws = B at *
  generalize placesTo (hasL zs 1) zs.length = ones at *
  go_enter Try.func85, Try.ntmps85
  go_wp2_with fail
  have x0_0 : (w.alloc (.cells #[.slice a rows.length c, .slice a' zs.length c'] 56)).cell? ⟨w.heap.size, 0, none⟩ = some (.slice a rows.length c) := cell_new _ _ _ (by simp) rfl
  have x0_1 : (w.alloc (.cells #[.slice a rows.length c, .slice a' zs.length c'] 56)).cell? ⟨w.heap.size, 1, none⟩ = some (.slice a' zs.length c') := cell_new _ _ _ (by simp) rfl
  have HB0 := Lib.hid (below_alloc w (.cells #[.slice a rows.length c, .slice a' zs.length c'] 56))
  have hsz : w.heap.size < (w.alloc (.cells #[.slice a rows.length c, .slice a' zs.length c'] 56)).heap.size := by simp
  generalize hw : (w.alloc (.cells #[.slice a rows.length c, .slice a' zs.length c'] 56)) = w0 at *
  clear hw
  go_wp2_with fail
  refine (HE.out w0 HB0.out).mono ?_
  rintro e w1 ⟨rfl, hb1⟩
  have c0 := cell_below hb1 x0_0 (by omega)
  have c1 := cell_below hb1 x0_1 (by omega)
  have HB1 := Lib.hid (HB0.out.trans (hb1.mono HB0.out.size))
  clear hb1 x0_0 x0_1
  by_cases hlt : H < L
  · have hge : ¬ H ≥ L := by omega
    have hdec : decide (H < L) = true := decide_eq_true hlt
    rw [if_pos hlt] at HBN
    go_wp2_with fail
    refine (HP.out w1 HB1.out).mono ?_
    rintro e w2 ⟨v, rfl, ho, hb2⟩
    obtain ⟨po, co, rfl, _, _, _⟩ := ho.slice
    have HB2 := Lib.hid (HB1.out.trans (hb2.mono HB1.out.size))
    clear ho hb2
    by_cases h0 : ones.length = 0
    · rw [if_pos h0] at HBN
      have h0' : (ones.length : Int) = 0 := by omega
      have hup := HB.out h0
      rw [h0]
      go_wp2_with fail
      go_ret2
      exact ⟨by rw [hdec, HBN.out]; rfl, HB2.out⟩
    · rw [if_neg h0] at HBN
      have h0' : ¬ ((ones.length : Int) = 0) := by omega
      go_wp2_with fail
      go_ret2
      exact ⟨by rw [hdec, HBN.out]; rfl, HB2.out⟩
  · have hge : H ≥ L := by omega
    have hdec : decide (H < L) = false := decide_eq_false hlt
    rw [if_neg hlt] at HBN
    go_wp2_with fail
    go_ret2
    exact ⟨by rw [hdec, HBN.out]; rfl, HB1.out⟩
end Go.Proofs.Ytoephhhofkmgjab.boundw
