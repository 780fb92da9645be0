/- Several texts in one. -/
import Derived.OwnWalk
import Derived.RangeFuncBox
import Derived.Test.YtoephhhofkmgjabSpG6
namespace Go.Proofs.Ytoephhhofkmgjab.bitw
open Go.RowKit own pp nums
set_option linter.unusedVariables false

theorem infoInt : (Try.prog.info? 3).map (fun i => (i.zero, i.size, i.bytes)) = some (some (.int .i64 0), 1, 8) := by kernel_rfl

/-- The first k binary digits of m, that of 1 first. -/
def bitsTo (m : Nat) (k : Nat) : List Int := (List.range k).map fun i => ((m / 2 ^ i % 2 : Nat) : Int)
theorem bitsTo_length (m k : Nat) : (bitsTo m k).length = k := by simp [bitsTo]
theorem bitsTo_succ (m k : Nat) : bitsTo m (k + 1) = bitsTo m k ++ [((m / 2 ^ k % 2 : Nat) : Int)] := by simp [bitsTo, List.range_succ]

theorem and_one : ∀ q : Fin 16, Go.bits BinOp.and IntKind.i64 ((q.val : Nat) : Int) 1 = ((q.val % 2 : Nat) : Int) := by decide +kernel
theorem bit_at (m k : Nat) (hm : m < 16) : Go.bits BinOp.and IntKind.i64 ((m : Int) / 2 ^ k) 1 = ((m / 2 ^ k % 2 : Nat) : Int) := by
  have e : ((m : Int) / 2 ^ k) = ((m / 2 ^ k : Nat) : Int) := by simp
  have h : m / 2 ^ k < 16 := Nat.lt_of_le_of_lt (Nat.div_le_self _ _) hm
  rw [e]
  exact and_one ⟨m / 2 ^ k, h⟩

set_option maxRecDepth 100000 in
set_option maxHeartbeats 1000000 in
theorem spec_bits (n m : Nat) (w : World) (hn : n ≤ 4) (hm : m < 16) :
    Calls Try.prog 92 #[.int .i64 n, .int .i64 m] w (intfns.Made (bitsTo m n) w) := by
  obtain ⟨i0, hi, hz0, hz1, hz2⟩ := info_parts infoInt
  go_enter Try.func92, Try.ntmps92
  go_wp2_with fail
  have hown0 := (own_empty w).1
  have hb0 := below_alloc w (.cells #[] 3)
  go_loopw [5, 6] (fun v i wr => ∃ (k : Nat), k ≤ n ∧ i = .int .i64 k ∧ wr.ownsRow w.heap.size 3 1 v k ((bitsTo m k).map (Value.int .i64)) ∧ Below w.heap.size w wr) (fun _ i _ => n - (intOf i).toNat)
  case atStart => exact ⟨0, Nat.zero_le _, rfl, hown0, hb0⟩
  case round =>
    obtain ⟨k, hk, rfl, hown, hbel⟩ := hrel
    have hvb := hown.lt
    have HV := Lib.hid hvb
    have HBl := Lib.hid hbel
    have hsz := hbel.size
    clear hown0 hb0 hvb hbel
    by_cases hlt : k < n
    · have HSn := Lib.hid (bitsTo_succ m k)
      have HO := Lib.hid hown
      clear hown
      have hk4 : k < 4 := by omega
      have hbit := bit_at m k hm
      generalize ((m / 2 ^ k % 2 : Nat) : Int) = x at *
      go_wp2_with (at_builtin; refine wpList_append_own _ rfl _ _ 22 rfl w.heap.size 3 i0 (.int .i64 0) 1 8 Try.underlying22 hi hz0 hz1 hz2 rfl (by decide) _ _ _ rfl (HO.out.alloc _) ⟨wr.heap.size, 0, none⟩ 1 1 [.int .i64 x] rfl rfl (cell_one_new _ _ _) (by simp [Value.oneCell']) (by unfold maxLen; omega) (by omega) (by simp; omega) ?_; intro v' w2 hown' hgrow _)
      obtain ⟨g', cap', hv'⟩ := ownsRow_succ hown'
      subst hv'
      have HO2 := Lib.hid hown'
      have HB2 := Lib.hid ((HBl.out.alloc hsz _).grown hgrow (by simp; omega) (fun g e => (HV.out g e).1))
      clear hown' hgrow hbit
      go_wp2_with fail
      go_roundw
      case rel => exact ⟨k + 1, by omega, by go_num, by rw [HSn.out, List.map_append]; exact HO2.out, HB2.out⟩
      case measure => simp [intOf]; omega
    · obtain rfl : k = n := by omega
      have HF1 := Lib.hid (show intfns.Made (bitsTo m k) w (.returned u5) wr from ⟨u5, rfl, OwnI.of (by rw [bitsTo_length]; exact hown), HBl.out⟩)
      clear hown
      go_wp2_with fail
      go_ret
      exact HF1.out
/-- The first k of the digits, then zeros. -/
def filled (m n k : Nat) : List Value := (bitsTo m k).map (Value.int .i64) ++ List.replicate (n - k) (.int .i64 0)
theorem filled_zero (m n : Nat) : filled m n 0 = List.replicate n (.int .i64 0) := by simp [filled, bitsTo]
theorem filled_all (m n : Nat) : filled m n n = (bitsTo m n).map (Value.int .i64) := by simp [filled]
theorem filled_succ (m n k : Nat) (h : k < n) : (filled m n k).set k (.int .i64 ((m / 2 ^ k % 2 : Nat) : Int)) = filled m n (k + 1) := by
  unfold filled
  rw [List.set_append, if_neg (by simp [bitsTo_length]), show n - k = (n - (k + 1)) + 1 by omega, List.replicate_succ, List.length_map, bitsTo_length, Nat.sub_self, List.set_cons_zero, bitsTo_succ, List.map_append, List.append_assoc]
  rfl
theorem filled_at (m n k : Nat) (h : k < n) : (filled m n k)[k]? = some (.int .i64 0) := by
  unfold filled
  rw [List.getElem?_append_right (by simp [bitsTo_length]), List.getElem?_replicate, if_pos (by simp [bitsTo_length]; omega)]

set_option maxRecDepth 100000 in
set_option maxHeartbeats 1000000 in
theorem impl_bits (n m : Nat) (w : World) (hn : n ≤ 4) (hm : m < 16) :
    Calls Try.prog 97 #[.int .i64 n, .int .i64 m] w (intfns.Made (bitsTo m n) w) := by
  obtain ⟨i0, hi, hz0, hz1, hz2⟩ := info_parts infoInt
  go_enter Try.func97, Try.ntmps97
  go_wp2_with (refine wpList_make_full _ rfl _ _ 22 rfl w.heap.size 3 i0 (.int .i64 0) 1 Try.underlying22 hi hz0 hz1 .i64 .i64 _ _ n rfl rfl rfl rfl (by rw [hz2]; omega) (by unfold maxLen; omega) (Nat.le_refl _) ?_; intro w1 hown1 hgrow1; refine Hid.out ?_)
  refine Lib.hid ?_
  have hb1 : Below w.heap.size w w1 := (Below.refl _ _).grown hgrow1 (Nat.le_refl _) (by simp)
  rw [show (Value.int .i64 0).cells = #[Value.int .i64 0] from rfl, Nat.mul_one, toList_madeCells_one, ← filled_zero m] at hown1
  go_wp2_with fail
  go_loopw [11] (fun i wr => ∃ k : Nat, k ≤ n ∧ i = .int .i64 k ∧ wr.ownsRow w.heap.size 3 1 (.slice (some ⟨w.heap.size, 0, none⟩) n n) n (filled m n k) ∧ Below w.heap.size w wr) (fun i _ => n - (intOf i).toNat)
  case atStart => exact ⟨0, Nat.zero_le _, rfl, hown1, hb1⟩
  case round =>
    obtain ⟨k, hk, rfl, hown, hbel⟩ := hrel
    clear hown1 hgrow1 hb1
    have HB := Lib.hid hbel
    clear hbel
    by_cases hlt : k < n
    · have hcell : wr.cell? ⟨w.heap.size, k, none⟩ = some (.int .i64 0) := by rw [hown.cellAt k (by omega), filled_at m n k hlt]
      have hfro := hown.frozenAt k
      have hst := hown.stored k (.int .i64 ((m / 2 ^ k % 2 : Nat) : Int))
      rw [filled_succ m n k hlt] at hst
      have HS := Lib.hid hst
      have hbit := bit_at m k hm
      have hk4 : k < 4 := by omega
      clear hst hown
      generalize ((m / 2 ^ k % 2 : Nat) : Int) = x at *
      go_wp2_with fail
      clear hbit
      go_roundw
      case rel => exact ⟨k + 1, by omega, by go_num, HS.out.1, HB.out.setCell (Nat.le_refl _) _⟩
      case measure => simp [intOf]; omega
    · obtain rfl : k = n := by omega
      rw [filled_all] at hown
      have HO := Lib.hid hown
      clear hown
      go_wp2_with fail
      go_ret
      exact ⟨_, rfl, OwnI.of (by rw [bitsTo_length]; exact HO.out), HB.out⟩
end Go.Proofs.Ytoephhhofkmgjab.bitw

namespace Go.Proofs.Ytoephhhofkmgjab.mk
open Go.RowKit own pp nums
set_option linter.unusedVariables false

theorem infoInt : (Try.prog.info? 3).map (fun i => (i.zero, i.size, i.bytes)) = some (some (.int .i64 0), 1, 8) := by kernel_rfl
/-- f 0, .., f (m - 1). -/
def mk (f : Nat → Int) (m : Nat) : List Int := (List.range m).map f
theorem mk_length (f : Nat → Int) (m : Nat) : (mk f m).length = m := by simp [mk]
theorem mk_succ (f : Nat → Int) (m : Nat) : mk f (m + 1) = mk f m ++ [f m] := by simp [mk, List.range_succ]
theorem mk_getD (f : Nat → Int) (m k : Nat) (h : k < m) : (mk f m).getD k 0 = f k := by simp [mk, List.getD_eq_getElem?_getD, h]
theorem mk_congr {f g : Nat → Int} {m : Nat} (h : ∀ k, k < m → f k = g k) : mk f m = mk g m := by
  unfold mk
  exact List.map_congr_left fun k hk => h k (List.mem_range.1 hk)
theorem mk_getDs (zs : List Int) : mk (fun k => zs.getD k 0) zs.length = zs := by
  apply List.ext_getElem (by simp [mk])
  intro i h1 h2
  simp [mk, List.getD_eq_getElem?_getD, h2]
/-- The first k of m made, then zeros. -/
def fil (f : Nat → Int) (m k : Nat) : List Value := (mk f k).map (Value.int .i64) ++ List.replicate (m - k) (.int .i64 0)
theorem fil_zero (f : Nat → Int) (m : Nat) : fil f m 0 = List.replicate m (.int .i64 0) := by simp [fil, mk]
theorem fil_all (f : Nat → Int) (m : Nat) : fil f m m = (mk f m).map (Value.int .i64) := by simp [fil]
theorem fil_succ (f : Nat → Int) (m k : Nat) (h : k < m) : (fil f m k).set k (.int .i64 (f k)) = fil f m (k + 1) := by
  unfold fil
  rw [List.set_append, if_neg (by simp [mk_length]), show m - k = (m - (k + 1)) + 1 by omega, List.replicate_succ, List.length_map, mk_length, Nat.sub_self, List.set_cons_zero, mk_succ, List.map_append, List.append_assoc]
  rfl
theorem fil_at (f : Nat → Int) (m k : Nat) (h : k < m) : (fil f m k)[k]? = some (.int .i64 0) := by
  unfold fil
  rw [List.getElem?_append_right (by simp [mk_length]), List.getElem?_replicate, if_pos (by simp [mk_length]; omega)]
theorem pow4 {n : Nat} (h : n ≤ 4) : 1 ≤ 2 ^ n ∧ 2 ^ n ≤ 16 := by
  have h5 : n = 0 ∨ n = 1 ∨ n = 2 ∨ n = 3 ∨ n = 4 := by omega
  rcases h5 with rfl | rfl | rfl | rfl | rfl <;> decide
end Go.Proofs.Ytoephhhofkmgjab.mk

namespace Go.Proofs.Ytoephhhofkmgjab.dig
open Go.RowKit own pp nums bitw
set_option linter.unusedVariables false
set_option linter.unusedSimpArgs false

theorem or_at : ∀ p q : Fin 16, Go.bits BinOp.or IntKind.i64 ((p.val : Nat) : Int) ((q.val : Nat) : Int) = ((p.val ||| q.val : Nat) : Int) := by decide +kernel
theorem or16 {p q : Nat} (hp : p < 16) (hq : q < 16) : Go.bits BinOp.or IntKind.i64 (p : Int) (q : Int) = ((p ||| q : Nat) : Int) := or_at ⟨p, hp⟩ ⟨q, hq⟩
theorem dig_any (k i : Nat) (w : World) (hk : k < 16) (hi : i ≤ 8) :
    Calls Try.prog 134 #[.int .i64 k, .int .i64 i] w (fun e w' => e = .returned (.int .i64 ((k / 2 ^ i % 2 : Nat) : Int)) ∧ w' = w) := by
  have hbit := bit_at k i hk
  generalize k / 2 ^ i % 2 = d at *
  go_enter Try.func134, Try.ntmps134
  go_wp2_with fail
  go_ret
  exact ⟨rfl, rfl⟩
end Go.Proofs.Ytoephhhofkmgjab.dig

namespace Go.Proofs.Ytoephhhofkmgjab.own1
open Go.RowKit own
set_option linter.unusedVariables false

theorem infoInt : (Try.prog.info? 3).map (fun i => (i.zero, i.size, i.bytes)) = some (some (.int .i64 0), 1, 8) := by kernel_rfl

theorem reads_pos {w : World} {a : Option Addr} {zs : List Int} (h : ints.Reads .i64 w a zs) (h0 : 0 < zs.length) :
    ∃ b off, a = some ⟨b, off, none⟩ ∧ b < w.heap.size ∧ ∀ i, i < zs.length → w.cell? ⟨b, off + i, none⟩ = some (.int .i64 (zs.getD i 0)) := by
  rcases h with rfl | h
  · simp at h0
  · exact h

theorem news_at {w : World} {b off : Nat} {zs : List Int} (h : ∀ i, i < zs.length → w.cell? ⟨b, off + i, none⟩ = some (.int .i64 (zs.getD i 0))) : ∀ j u, (zs.map (Value.int .i64))[j]? = some u → w.cell? ((⟨b, off, none⟩ : Addr).add j) = some u := by
  intro j u hu
  rw [Go.WideShapes.add_plain]
  rw [List.getElem?_map] at hu
  obtain ⟨z, hz, rfl⟩ := Option.map_eq_some_iff.1 hu
  have hj : j < zs.length := (List.getElem?_eq_some_iff.1 hz).1
  rw [h j hj, List.getD_eq_getElem?_getD, hz]
  rfl

set_option maxRecDepth 100000 in
set_option maxHeartbeats 1000000 in
theorem spec_own (a : Option Addr) (zs : List Int) (c : Nat) (w : World) (hr : ints.Reads .i64 w a zs) (hn : zs.length ≤ 1048576) (h0 : 0 < zs.length) :
    Calls Try.prog 62 #[.slice a zs.length c] w (intfns.Made zs w) := by
  obtain ⟨i0, hi, hz0, hz1, hz2⟩ := info_parts infoInt
  obtain ⟨b, off, rfl, hb, hc⟩ := reads_pos hr h0
  have hb0 := below_alloc w (.cells #[] 3)
  have HN := Lib.hid (news_at (w := w.alloc (.cells #[] 3)) fun i hi => (hb0.cell (p := ⟨b, off + i, none⟩) hb).trans (hc i hi))
  have HB := Lib.hid hb0
  have HO := Lib.hid (show (w.alloc (.cells #[] 3)).ownsRow w.heap.size 3 1 (.slice (some ⟨w.heap.size, 0, none⟩) 0 0) 0 [] from (own_empty w).1)
  clear hr hc hb0
  go_enter Try.func62, Try.ntmps62
  go_wp2_with (at_builtin; refine wpList_append_own _ rfl _ _ 22 rfl w.heap.size 3 i0 (.int .i64 0) 1 8 Try.underlying22 hi hz0 hz1 hz2 rfl (by decide) _ _ _ rfl HO.out ⟨b, off, none⟩ zs.length c (zs.map (Value.int .i64)) rfl (by simp) HN.out (by simp [Value.oneCell']) (by unfold maxLen; omega) (by omega) (by simp) ?_; intro v' w2 hown' hgrow _)
  have HO2 := Lib.hid (show w2.ownsRow w.heap.size 3 1 v' zs.length (zs.map (Value.int .i64)) by simpa using hown')
  have HB2 := Lib.hid (HB.out.grown hgrow (by simp) (fun g e => (HO.out.lt g e).1))
  clear hown' hgrow
  go_wp2_with fail
  go_ret
  exact ⟨v', rfl, OwnI.of HO2.out, HB2.out⟩
end Go.Proofs.Ytoephhhofkmgjab.own1

namespace Go.Proofs.Ytoephhhofkmgjab.pairw
open Go.RowKit own pp nums bitw dig
set_option linter.unusedVariables false
set_option linter.unusedSimpArgs false

/-- The sum of the digits at a bit. -/
def ds (a b i : Nat) : Int := ((a / 2 ^ i % 2 : Nat) : Int) + ((b / 2 ^ i % 2 : Nat) : Int)
theorem set_arr {w : World} {B k : Nat} {s : Nat → Int} (h : ∀ j, j < 4 → w.cell? ⟨B, j, none⟩ = some (.int .i64 (if j < k then s j else 0))) (hk : k < 4) : ∀ j, j < 4 → (w.setCell ⟨B, k, none⟩ (.int .i64 (s k))).cell? ⟨B, j, none⟩ = some (.int .i64 (if j < k + 1 then s j else 0)) := by
  intro j hj
  by_cases e : j = k
  · subst e
    rw [World.cell?_setCell_same' _ _ _ (by rw [h j hj]; rfl), if_pos (by omega)]
  · rw [World.cell?_setCell_other _ _ _ _ (fun he => e (by have := congrArg Addr.off he; exact this.symm)), h j hj]
    simp only [show (j < k + 1) ↔ (j < k) from by omega]
set_option maxRecDepth 100000 in
set_option maxHeartbeats 4000000 in
theorem pair_sum (a b : Nat) (w : World) (ha : a < 16) (hb : b < 16) :
    Calls Try.prog 109 #[.int .i64 a, .int .i64 b] w (fun e w' => e = .returned (.agg #[.int .i64 (ds a b 0), .int .i64 (ds a b 1), .int .i64 (ds a b 2), .int .i64 (ds a b 3)]) ∧ Below w.heap.size w w') := by
  obtain ⟨w0, hw0⟩ : ∃ w0 : World, w0 = (w.alloc (.cells #[.int .i64 0, .int .i64 0, .int .i64 0, .int .i64 0] 125)).alloc (.cells #[.int .i64 0, .int .i64 0, .int .i64 0, .int .i64 0] 125) := ⟨_, rfl⟩
  have hx : ∀ j, j < 4 → w0.cell? ⟨w.heap.size + 1, j, none⟩ = some (.int .i64 (if j < 0 then ds a b j else 0)) := by
    intro j hj
    rw [hw0]
    have h4 : j = 0 ∨ j = 1 ∨ j = 2 ∨ j = 3 := by omega
    rcases h4 with rfl | rfl | rfl | rfl <;> exact cell_new _ _ _ (by simp) rfl
  have hr : ∀ j, j < 4 → w0.cell? ⟨w.heap.size, j, none⟩ = some (.int .i64 0) := by
    intro j hj
    rw [hw0]
    have h4 : j = 0 ∨ j = 1 ∨ j = 2 ∨ j = 3 := by omega
    rcases h4 with rfl | rfl | rfl | rfl <;> exact cell_old _ (cell_new _ _ _ rfl rfl)
  have hxf : ∀ j, j < 4 → w0.frozen? ⟨w.heap.size + 1, j, none⟩ = false := by
    intro j hj
    rw [hw0]
    exact fro_new _ _ _ (by simp)
  have hrf : ∀ j, j < 4 → w0.frozen? ⟨w.heap.size, j, none⟩ = false := by
    intro j hj
    rw [hw0]
    exact fro_below (below_alloc (w.alloc (.cells #[.int .i64 0, .int .i64 0, .int .i64 0, .int .i64 0] 125)) (.cells #[.int .i64 0, .int .i64 0, .int .i64 0, .int .i64 0] 125)) (fro_new _ _ _ rfl) (by simp)
  have hB0 : Below w.heap.size w w0 := by rw [hw0]; exact (below_alloc w (.cells #[.int .i64 0, .int .i64 0, .int .i64 0, .int .i64 0] 125)).alloc (by simp) (.cells #[.int .i64 0, .int .i64 0, .int .i64 0, .int .i64 0] 125)
  have s0 : w.heap.size + 2 ≤ w0.heap.size := by rw [hw0]; simp
  have HX := Lib.hid hx
  have HR := Lib.hid hr
  have HXF := Lib.hid hxf
  have HRF := Lib.hid hrf
  have HB0 := Lib.hid hB0
  clear hx hr hxf hrf hB0
  go_enter Try.func109, Try.ntmps109
  go_wp2_with fail
  rw [← hw0]
  clear hw0
  go_loopw [8] (fun i wr => ∃ k : Nat, k ≤ 4 ∧ i = .int .i64 k ∧ Hid (∀ j, j < 4 → wr.cell? ⟨w.heap.size + 1, j, none⟩ = some (.int .i64 (if j < k then ds a b j else 0))) ∧ Hid (∀ j, j < 4 → wr.cell? ⟨w.heap.size, j, none⟩ = some (.int .i64 0)) ∧ Hid (∀ j, j < 4 → wr.frozen? ⟨w.heap.size + 1, j, none⟩ = false) ∧ Hid (∀ j, j < 4 → wr.frozen? ⟨w.heap.size, j, none⟩ = false) ∧ w.heap.size + 2 ≤ wr.heap.size ∧ Hid (Below w.heap.size w wr)) (fun i _ => 4 - (intOf i).toNat)
  case atStart => exact ⟨0, by omega, rfl, HX, HR, HXF, HRF, s0, HB0⟩
  case round =>
    obtain ⟨k, hk, rfl, HX, HR, HXF, HRF, s0, HB⟩ := hrel
    by_cases hlt : k < 4
    · have hcell := HX.out k hlt
      rw [if_neg (by omega)] at hcell
      have hfro := HXF.out k hlt
      have HD1 := Lib.hid (fun (wz : World) => dig_any a k wz ha (by omega))
      have HD2 := Lib.hid (fun (wz : World) => dig_any b k wz hb (by omega))
      have HX2 := Lib.hid (set_arr HX.out hlt)
      have HDS := Lib.hid (show ds a b k = ((a / 2 ^ k % 2 : Nat) : Int) + ((b / 2 ^ k % 2 : Nat) : Int) from rfl)
      rw [HDS.out] at HX2
      have h1 : a / 2 ^ k % 2 ≤ 1 := by omega
      have h2 : b / 2 ^ k % 2 ≤ 1 := by omega
      clear HDS
      generalize a / 2 ^ k % 2 = d1 at *
      generalize b / 2 ^ k % 2 = d2 at *
      obtain ⟨W1, hW1⟩ : ∃ W1 : World, W1 = wr.setCell ⟨w.heap.size + 1, k, none⟩ (.int .i64 ((d1 : Int) + (d2 : Int))) := ⟨_, rfl⟩
      have HW := Lib.hid (show (∀ j, j < 4 → W1.cell? ⟨w.heap.size + 1, j, none⟩ = some (.int .i64 (if j < k + 1 then ds a b j else 0))) ∧ (∀ j, j < 4 → W1.cell? ⟨w.heap.size, j, none⟩ = some (.int .i64 0)) ∧ (∀ j, j < 4 → W1.frozen? ⟨w.heap.size + 1, j, none⟩ = false) ∧ (∀ j, j < 4 → W1.frozen? ⟨w.heap.size, j, none⟩ = false) ∧ w.heap.size + 2 ≤ W1.heap.size ∧ Below w.heap.size w W1 from ⟨by rw [hW1]; exact HX2.out, fun j hj => by rw [hW1]; exact cell_set (HR.out j hj) (by simp) _, fun j hj => by rw [hW1, World.frozen?_setCell]; exact HXF.out j hj, fun j hj => by rw [hW1, World.frozen?_setCell]; exact HRF.out j hj, by rw [hW1, size_set]; exact s0, by rw [hW1]; exact HB.out.setCell (by simp) _⟩)
      have HWE := Lib.hid hW1
      clear hW1 HX2 HX HR HXF HRF HB
      go_wp2_with fail
      refine (HD1.out _).mono ?_
      rintro e w' ⟨rfl, hww⟩
      rw [hww]
      clear hww
      go_wp2_with fail
      refine (HD2.out _).mono ?_
      rintro e w' ⟨rfl, hww⟩
      rw [hww]
      clear hww
      go_wp2_with fail
      rw [← HWE.out]
      go_roundw
      case rel => exact ⟨k + 1, by omega, by go_num, Lib.hid HW.out.1, Lib.hid HW.out.2.1, Lib.hid HW.out.2.2.1, Lib.hid HW.out.2.2.2.1, HW.out.2.2.2.2.1, Lib.hid HW.out.2.2.2.2.2⟩
      case measure => simp [intOf]; omega
    · obtain rfl : k = 4 := by omega
      have c0 : wr.cell? ⟨w.heap.size + 1, 0, none⟩ = some (.int .i64 (ds a b 0)) := HX.out 0 (by omega)
      have c1 : wr.cell? ⟨w.heap.size + 1, 1, none⟩ = some (.int .i64 (ds a b 1)) := HX.out 1 (by omega)
      have c2 : wr.cell? ⟨w.heap.size + 1, 2, none⟩ = some (.int .i64 (ds a b 2)) := HX.out 2 (by omega)
      have c3 : wr.cell? ⟨w.heap.size + 1, 3, none⟩ = some (.int .i64 (ds a b 3)) := HX.out 3 (by omega)
      have r0 := HR.out 0 (by omega)
      have r1 := HR.out 1 (by omega)
      have r2 := HR.out 2 (by omega)
      have r3 := HR.out 3 (by omega)
      have f0 := HRF.out 0 (by omega)
      have f1 := HRF.out 1 (by omega)
      have f2 := HRF.out 2 (by omega)
      have f3 := HRF.out 3 (by omega)
      have HV := Lib.hid (show ∀ y0 y1 y2 y3 : Int, y0 = ds a b 0 → y1 = ds a b 1 → y2 = ds a b 2 → y3 = ds a b 3 → Ending.returned (.agg #[.int .i64 y0, .int .i64 y1, .int .i64 y2, .int .i64 y3]) = Ending.returned (.agg #[.int .i64 (ds a b 0), .int .i64 (ds a b 1), .int .i64 (ds a b 2), .int .i64 (ds a b 3)]) from fun _ _ _ _ h0 h1 h2 h3 => by rw [h0, h1, h2, h3])
      obtain ⟨y0, hy0⟩ : ∃ y, y = ds a b 0 := ⟨_, rfl⟩
      obtain ⟨y1, hy1⟩ : ∃ y, y = ds a b 1 := ⟨_, rfl⟩
      obtain ⟨y2, hy2⟩ : ∃ y, y = ds a b 2 := ⟨_, rfl⟩
      obtain ⟨y3, hy3⟩ : ∃ y, y = ds a b 3 := ⟨_, rfl⟩
      replace HV := Lib.hid (HV.out y0 y1 y2 y3 hy0 hy1 hy2 hy3)
      rw [← hy0] at c0
      rw [← hy1] at c1
      rw [← hy2] at c2
      rw [← hy3] at c3
      clear HX HR HXF HRF hy0 hy1 hy2 hy3
      go_wp2_with fail
      refine bodyPost_ret (v := .agg #[.int .i64 y0, .int .i64 y1, .int .i64 y2, .int .i64 y3]) (by simp [results, Try.results109, go_sem, r0, r1, r2, r3]) rfl ⟨HV.out, ?_⟩
      exact ((((HB.out.setCell (Nat.le_refl _) _).setCell (Nat.le_refl _) _).setCell (Nat.le_refl _) _).setCell (Nat.le_refl _) _)
end Go.Proofs.Ytoephhhofkmgjab.pairw

namespace Go.Proofs.Ytoephhhofkmgjab.plin
open Go.RowKit own pp nums 
set_option linter.unusedVariables false
set_option linter.unusedSimpArgs false

theorem infoInt : (Try.prog.info? 3).map (fun i => (i.zero, i.size, i.bytes)) = some (some (.int .i64 0), 1, 8) := by kernel_rfl
/-- The places below k where p holds. -/
def placesTo (p : Nat → Bool) (k : Nat) : List Int := ((List.range k).filter p).map fun i : Nat => (i : Int)
theorem placesTo_length (p : Nat → Bool) (k : Nat) : (placesTo p k).length ≤ k := by
  unfold placesTo
  rw [List.length_map]
  exact Nat.le_trans (List.length_filter_le _ _) (by simp)
theorem placesTo_hit (p : Nat → Bool) (k : Nat) (h : p k = true) : placesTo p (k + 1) = placesTo p k ++ [(k : Int)] := by
  simp [placesTo, List.range_succ, List.filter_append, h]
theorem placesTo_miss (p : Nat → Bool) (k : Nat) (h : p k = false) : placesTo p (k + 1) = placesTo p k := by
  simp [placesTo, List.range_succ, List.filter_append, h]

set_option maxHeartbeats 1000000 in
theorem in_closure (k : Nat) (b0 : Nat) (a : Option Addr) (zs : List Int) (c : Nat) (w : World) (hc0 : w.cell? ⟨b0, 0, none⟩ = some (.slice a zs.length c)) (hr : ints.Reads .i64 w a zs) (hk : k < zs.length) (hn : zs.length ≤ 1048576) (ok : Bool) (hok : decide (0 < zs.getD k 0) = ok) :
    Calls Try.prog 133 #[.int .i64 k, .pointer (some ⟨b0, 0, none⟩)] w (fun e w' => e = .returned (.bool ok) ∧ ∃ m, w' = w.drewN m) := by
  obtain ⟨b1, o1, rfl, _, hc1⟩ := hr.at hk
  clear hr
  generalize zs.getD k 0 = s at *
  have i1 : (0 : Int) ≤ (k : Int) := by omega
  have i2 : (k : Int) < (zs.length : Int) := by omega
  go_enter Try.func133, Try.ntmps133
  go_wp2_with fail
  go_ret
  exact ⟨rfl, 0, rfl⟩
set_option maxRecDepth 100000 in
set_option maxHeartbeats 1000000 in
theorem in_places (n : Nat) (c1 : Value) (p : Nat → Bool) (w : World) (hn : n ≤ 1048576)
    (HC : Hid (∀ (k : Nat) (wr : World), k < n → Below w.heap.size w wr → Calls Try.prog 133 #[.int .i64 k, c1] wr fun e w' => e = .returned (.bool (p k)) ∧ ∃ m, w' = wr.drewN m)) :
    Calls Try.prog 105 #[.int .i64 n, .func (.func 133) #[] #[c1]] w (intfns.Made (placesTo p n) w) := by
  obtain ⟨i0, hi, hz0, hz1, hz2⟩ := info_parts infoInt
  go_enter Try.func105, Try.ntmps105
  go_wp2_with fail
  have hown0 := (own_empty w).1
  have hb0 := below_alloc w (.cells #[] 3)
  go_loopw [5, 9] (fun v i wr => ∃ (k : Nat), k ≤ n ∧ i = .int .i64 k ∧ wr.ownsRow w.heap.size 3 1 v (placesTo p k).length ((placesTo p k).map (Value.int .i64)) ∧ Below w.heap.size w wr) (fun _ i _ => n - (intOf i).toNat)
  case atStart => exact ⟨0, Nat.zero_le _, rfl, hown0, hb0⟩
  case round =>
    obtain ⟨k, hk, rfl, hown, hbel⟩ := hrel
    have HV := Lib.hid hown.lt
    have HBl := Lib.hid hbel
    have hsz := hbel.size
    clear hown0 hb0
    by_cases hlt : k < n
    · have HO := Lib.hid hown
      have HF := Lib.hid (HC.out k wr hlt hbel)
      have hlen := placesTo_length p k
      clear hown hbel
      cases hp : p k
      · have HM := Lib.hid (placesTo_miss p k hp)
        rw [hp] at HF
        clear hp
        generalize placesTo p k = ms at *
        go_wp2_with fail
        refine HF.out.mono ?_
        rintro e w' ⟨rfl, m, rfl⟩
        go_wp2_with fail
        go_roundw
        case rel => exact ⟨k + 1, by omega, by go_num, by rw [HM.out]; exact HO.out, ints.below_drewN HBl.out _⟩
        case measure => simp [intOf]; omega
      · have HM := Lib.hid (placesTo_hit p k hp)
        rw [hp] at HF
        clear hp
        generalize placesTo p k = ms at *
        go_wp2_with fail
        refine HF.out.mono ?_
        rintro e w' ⟨rfl, m, rfl⟩
        obtain ⟨wq, hwq⟩ : ∃ wq, wq = wr.drewN m := ⟨_, rfl⟩
        have hoq : wq.ownsRow w.heap.size 3 1 u5 ms.length (ms.map (Value.int .i64)) := by rw [hwq]; exact HO.out
        have HBq := Lib.hid (show Below w.heap.size w wq by rw [hwq]; exact ints.below_drewN HBl.out _)
        have hzq : w.heap.size ≤ wq.heap.size := HBq.out.size
        rw [← hwq]
        clear hwq
        go_wp2_with (at_builtin; refine wpList_append_own _ rfl _ _ 22 rfl w.heap.size 3 i0 (.int .i64 0) 1 8 Try.underlying22 hi hz0 hz1 hz2 rfl (by decide) _ _ _ rfl (hoq.alloc _) ⟨wq.heap.size, 0, none⟩ 1 1 [.int .i64 (k : Nat)] rfl rfl (cell_one_new _ _ _) (by simp [Value.oneCell']) (by unfold maxLen; omega) (by omega) (by simp; omega) ?_; intro v' w2 hown' hgrow _)
        obtain ⟨g', cap', hv'⟩ := ownsRow_succ hown'
        subst hv'
        have HO2 := Lib.hid hown'
        have HB2 := Lib.hid ((HBq.out.alloc HBq.out.size _).grown hgrow (Nat.le_trans HBq.out.size (by simp)) (fun g e => (HV.out g e).1))
        clear hoq hown' hgrow
        go_wp2_with fail
        go_roundw
        case rel => exact ⟨k + 1, by omega, by go_num, by rw [HM.out, List.map_append, List.length_append]; exact HO2.out, HB2.out⟩
        case measure => simp [intOf]; omega
    · obtain rfl : k = n := by omega
      have HF1 := Lib.hid (show intfns.Made (placesTo p k) w (.returned u5) wr from ⟨u5, rfl, OwnI.of hown, HBl.out⟩)
      clear hown hbel
      go_wp2_with fail
      go_ret
      exact HF1.out
set_option maxHeartbeats 1000000 in
theorem impl_in (a : Option Addr) (zs : List Int) (c : Nat) (w : World) (hr : ints.Reads .i64 w a zs) (hn : zs.length ≤ 1048576) :
    Calls Try.prog 108 #[.slice a zs.length c] w (intfns.Made (placesTo (fun k => decide (0 < zs.getD k 0)) zs.length) w) := by
  have HR := Lib.hid hr
  clear hr
  go_enter Try.func108, Try.ntmps108
  obtain ⟨w0, hw0⟩ : ∃ w0 : World, w0 = w.alloc (.cells #[.slice a zs.length c] 22) := ⟨_, rfl⟩
  have x0 : w0.cell? ⟨w.heap.size, 0, none⟩ = some (.slice a zs.length c) := by rw [hw0]; exact cell_new _ _ _ rfl rfl
  have HB0 := Lib.hid (show Below w.heap.size w w0 by rw [hw0]; exact below_alloc w (.cells #[.slice a zs.length c] 22))
  have s0 : w.heap.size < w0.heap.size := by rw [hw0]; simp
  go_wp2_with fail
  rw [← hw0]
  clear hw0
  refine (in_places zs.length (.pointer (some ⟨w.heap.size, 0, none⟩)) (fun k => decide (0 < zs.getD k 0)) w0 hn (Lib.hid (fun k wr hk hb => in_closure k _ a zs c wr (cell_below hb x0 s0) ((HR.out.below HB0.out).below hb) hk hn _ rfl))).mono ?_
  rintro e w3 ⟨v3, rfl, hov, hb3⟩
  have HF := Lib.hid (show intfns.Made (placesTo (fun k => decide (0 < zs.getD k 0)) zs.length) w (.returned v3) w3 from ⟨v3, rfl, hov.mono (by omega) (Nat.le_refl _), HB0.out.trans (hb3.mono (by omega))⟩)
  clear hov hb3
  go_wp2_with fail
  go_ret
  exact HF.out
end Go.Proofs.Ytoephhhofkmgjab.plin

namespace Go.Proofs.Ytoephhhofkmgjab.others
open Go.RowKit own pp nums plin
set_option linter.unusedVariables false
set_option linter.unusedSimpArgs false

set_option maxHeartbeats 1000000 in
theorem other_closure (k : Nat) (b0 : Nat) (a : Option Addr) (zs : List Int) (c : Nat) (w : World) (hc0 : w.cell? ⟨b0, 0, none⟩ = some (.slice a zs.length c)) (hr : ints.Reads .i64 w a zs) (hk : k < zs.length) (hn : zs.length ≤ 1048576) (ok : Bool) (hok : (zs.getD k 0 == 0) = ok) :
    Calls Try.prog 106 #[.int .i64 k, .pointer (some ⟨b0, 0, none⟩)] w (fun e w' => e = .returned (.bool ok) ∧ ∃ m, w' = w.drewN m) := by
  obtain ⟨b1, o1, rfl, _, hc1⟩ := hr.at hk
  clear hr
  generalize zs.getD k 0 = s at *
  have i1 : (0 : Int) ≤ (k : Int) := by omega
  have i2 : (k : Int) < (zs.length : Int) := by omega
  go_enter Try.func106, Try.ntmps106
  go_wp2_with fail
  go_ret
  exact ⟨rfl, 0, rfl⟩
set_option maxRecDepth 100000 in
set_option maxHeartbeats 1000000 in
theorem other_places (n : Nat) (c1 : Value) (p : Nat → Bool) (w : World) (hn : n ≤ 1048576)
    (HC : Hid (∀ (k : Nat) (wr : World), k < n → Below w.heap.size w wr → Calls Try.prog 106 #[.int .i64 k, c1] wr fun e w' => e = .returned (.bool (p k)) ∧ ∃ m, w' = wr.drewN m)) :
    Calls Try.prog 105 #[.int .i64 n, .func (.func 106) #[] #[c1]] w (intfns.Made (placesTo p n) w) := by
  obtain ⟨i0, hi, hz0, hz1, hz2⟩ := info_parts infoInt
  go_enter Try.func105, Try.ntmps105
  go_wp2_with fail
  have hown0 := (own_empty w).1
  have hb0 := below_alloc w (.cells #[] 3)
  go_loopw [5, 9] (fun v i wr => ∃ (k : Nat), k ≤ n ∧ i = .int .i64 k ∧ wr.ownsRow w.heap.size 3 1 v (placesTo p k).length ((placesTo p k).map (Value.int .i64)) ∧ Below w.heap.size w wr) (fun _ i _ => n - (intOf i).toNat)
  case atStart => exact ⟨0, Nat.zero_le _, rfl, hown0, hb0⟩
  case round =>
    obtain ⟨k, hk, rfl, hown, hbel⟩ := hrel
    have HV := Lib.hid hown.lt
    have HBl := Lib.hid hbel
    have hsz := hbel.size
    clear hown0 hb0
    by_cases hlt : k < n
    · have HO := Lib.hid hown
      have HF := Lib.hid (HC.out k wr hlt hbel)
      have hlen := placesTo_length p k
      clear hown hbel
      cases hp : p k
      · have HM := Lib.hid (placesTo_miss p k hp)
        rw [hp] at HF
        clear hp
        generalize placesTo p k = ms at *
        go_wp2_with fail
        refine HF.out.mono ?_
        rintro e w' ⟨rfl, m, rfl⟩
        go_wp2_with fail
        go_roundw
        case rel => exact ⟨k + 1, by omega, by go_num, by rw [HM.out]; exact HO.out, ints.below_drewN HBl.out _⟩
        case measure => simp [intOf]; omega
      · have HM := Lib.hid (placesTo_hit p k hp)
        rw [hp] at HF
        clear hp
        generalize placesTo p k = ms at *
        go_wp2_with fail
        refine HF.out.mono ?_
        rintro e w' ⟨rfl, m, rfl⟩
        obtain ⟨wq, hwq⟩ : ∃ wq, wq = wr.drewN m := ⟨_, rfl⟩
        have hoq : wq.ownsRow w.heap.size 3 1 u5 ms.length (ms.map (Value.int .i64)) := by rw [hwq]; exact HO.out
        have HBq := Lib.hid (show Below w.heap.size w wq by rw [hwq]; exact ints.below_drewN HBl.out _)
        have hzq : w.heap.size ≤ wq.heap.size := HBq.out.size
        rw [← hwq]
        clear hwq
        go_wp2_with (at_builtin; refine wpList_append_own _ rfl _ _ 22 rfl w.heap.size 3 i0 (.int .i64 0) 1 8 Try.underlying22 hi hz0 hz1 hz2 rfl (by decide) _ _ _ rfl (hoq.alloc _) ⟨wq.heap.size, 0, none⟩ 1 1 [.int .i64 (k : Nat)] rfl rfl (cell_one_new _ _ _) (by simp [Value.oneCell']) (by unfold maxLen; omega) (by omega) (by simp; omega) ?_; intro v' w2 hown' hgrow _)
        obtain ⟨g', cap', hv'⟩ := ownsRow_succ hown'
        subst hv'
        have HO2 := Lib.hid hown'
        have HB2 := Lib.hid ((HBq.out.alloc HBq.out.size _).grown hgrow (Nat.le_trans HBq.out.size (by simp)) (fun g e => (HV.out g e).1))
        clear hoq hown' hgrow
        go_wp2_with fail
        go_roundw
        case rel => exact ⟨k + 1, by omega, by go_num, by rw [HM.out, List.map_append, List.length_append]; exact HO2.out, HB2.out⟩
        case measure => simp [intOf]; omega
    · obtain rfl : k = n := by omega
      have HF1 := Lib.hid (show intfns.Made (placesTo p k) w (.returned u5) wr from ⟨u5, rfl, OwnI.of hown, HBl.out⟩)
      clear hown hbel
      go_wp2_with fail
      go_ret
      exact HF1.out
end Go.Proofs.Ytoephhhofkmgjab.others
