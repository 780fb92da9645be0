/- Several texts in one. -/
import Derived.OwnWalk
import Derived.RangeFuncBox
import Derived.Test.YthohnnobahcdpaaNums
import Derived.Test.YthohnnobahcdpaaOwnG
import Derived.Test.YthohnnobahcdpaaIntFns
namespace Go.Proofs.Ythohnnobahcdpaa.mk
open Go.RowKit own pp nums
set_option linter.unusedVariables false

theorem infoInt : (Try.prog.info? 3).map (fun i => (i.zero, i.size, i.bytes)) = some (some (.int .i64 0), 1, 8) := by kernel_rfl
/-- f 0, .., f (m - 1). -/
def mk (f : Nat → Int) (m : Nat) : List Int := (List.range m).map f
theorem mk_length (f : Nat → Int) (m : Nat) : (mk f m).length = m := by simp [mk]
theorem mk_succ (f : Nat → Int) (m : Nat) : mk f (m + 1) = mk f m ++ [f m] := by simp [mk, List.range_succ]
theorem mk_getD (f : Nat → Int) (m k : Nat) (h : k < m) : (mk f m).getD k 0 = f k := by simp [mk, List.getD_eq_getElem?_getD, h]
theorem mk_congr {f g : Nat → Int} {m : Nat} (h : ∀ k, k < m → f k = g k) : mk f m = mk g m := by
  unfold mk
  exact List.map_congr_left fun k hk => h k (List.mem_range.1 hk)
theorem mk_getDs (zs : List Int) : mk (fun k => zs.getD k 0) zs.length = zs := by
  apply List.ext_getElem (by simp [mk])
  intro i h1 h2
  simp [mk, List.getD_eq_getElem?_getD, h2]
/-- The first k of m made, then zeros. -/
def fil (f : Nat → Int) (m k : Nat) : List Value := (mk f k).map (Value.int .i64) ++ List.replicate (m - k) (.int .i64 0)
theorem fil_zero (f : Nat → Int) (m : Nat) : fil f m 0 = List.replicate m (.int .i64 0) := by simp [fil, mk]
theorem fil_all (f : Nat → Int) (m : Nat) : fil f m m = (mk f m).map (Value.int .i64) := by simp [fil]
theorem fil_succ (f : Nat → Int) (m k : Nat) (h : k < m) : (fil f m k).set k (.int .i64 (f k)) = fil f m (k + 1) := by
  unfold fil
  rw [List.set_append, if_neg (by simp [mk_length]), show m - k = (m - (k + 1)) + 1 by omega, List.replicate_succ, List.length_map, mk_length, Nat.sub_self, List.set_cons_zero, mk_succ, List.map_append, List.append_assoc]
  rfl
theorem fil_at (f : Nat → Int) (m k : Nat) (h : k < m) : (fil f m k)[k]? = some (.int .i64 0) := by
  unfold fil
  rw [List.getElem?_append_right (by simp [mk_length]), List.getElem?_replicate, if_pos (by simp [mk_length]; omega)]
theorem pow4 {n : Nat} (h : n ≤ 4) : 1 ≤ 2 ^ n ∧ 2 ^ n ≤ 16 := by
  have h5 : n = 0 ∨ n = 1 ∨ n = 2 ∨ n = 3 ∨ n = 4 := by omega
  rcases h5 with rfl | rfl | rfl | rfl | rfl <;> decide
end Go.Proofs.Ythohnnobahcdpaa.mk

namespace Go.Proofs.Ythohnnobahcdpaa.own1
open Go.RowKit own
set_option linter.unusedVariables false

theorem infoInt : (Try.prog.info? 3).map (fun i => (i.zero, i.size, i.bytes)) = some (some (.int .i64 0), 1, 8) := by kernel_rfl

theorem reads_pos {w : World} {a : Option Addr} {zs : List Int} (h : ints.Reads .i64 w a zs) (h0 : 0 < zs.length) :
    ∃ b off, a = some ⟨b, off, none⟩ ∧ b < w.heap.size ∧ ∀ i, i < zs.length → w.cell? ⟨b, off + i, none⟩ = some (.int .i64 (zs.getD i 0)) := by
  rcases h with rfl | h
  · simp at h0
  · exact h

theorem news_at {w : World} {b off : Nat} {zs : List Int} (h : ∀ i, i < zs.length → w.cell? ⟨b, off + i, none⟩ = some (.int .i64 (zs.getD i 0))) : ∀ j u, (zs.map (Value.int .i64))[j]? = some u → w.cell? ((⟨b, off, none⟩ : Addr).add j) = some u := by
  intro j u hu
  rw [Go.WideShapes.add_plain]
  rw [List.getElem?_map] at hu
  obtain ⟨z, hz, rfl⟩ := Option.map_eq_some_iff.1 hu
  have hj : j < zs.length := (List.getElem?_eq_some_iff.1 hz).1
  rw [h j hj, List.getD_eq_getElem?_getD, hz]
  rfl

set_option maxRecDepth 100000 in
set_option maxHeartbeats 1000000 in
theorem spec_own (a : Option Addr) (zs : List Int) (c : Nat) (w : World) (hr : ints.Reads .i64 w a zs) (hn : zs.length ≤ 1048576) (h0 : 0 < zs.length) :
    Calls Try.prog 96 #[.slice a zs.length c] w (intfns.Made zs w) := by
  obtain ⟨i0, hi, hz0, hz1, hz2⟩ := info_parts infoInt
  obtain ⟨b, off, rfl, hb, hc⟩ := reads_pos hr h0
  have hb0 := below_alloc w (.cells #[] 3)
  have HN := Lib.hid (news_at (w := w.alloc (.cells #[] 3)) fun i hi => (hb0.cell (p := ⟨b, off + i, none⟩) hb).trans (hc i hi))
  have HB := Lib.hid hb0
  have HO := Lib.hid (show (w.alloc (.cells #[] 3)).ownsRow w.heap.size 3 1 (.slice (some ⟨w.heap.size, 0, none⟩) 0 0) 0 [] from (own_empty w).1)
  clear hr hc hb0
  go_enter Try.func96, Try.ntmps96
  go_wp2_with (at_builtin; refine wpList_append_own _ rfl _ _ 22 rfl w.heap.size 3 i0 (.int .i64 0) 1 8 Try.underlying22 hi hz0 hz1 hz2 rfl (by decide) _ _ _ rfl HO.out ⟨b, off, none⟩ zs.length c (zs.map (Value.int .i64)) rfl (by simp) HN.out (by simp [Value.oneCell']) (by unfold maxLen; omega) (by omega) (by simp) ?_; intro v' w2 hown' hgrow _)
  have HO2 := Lib.hid (show w2.ownsRow w.heap.size 3 1 v' zs.length (zs.map (Value.int .i64)) by simpa using hown')
  have HB2 := Lib.hid (HB.out.grown hgrow (by simp) (fun g e => (HO.out.lt g e).1))
  clear hown' hgrow
  go_wp2_with fail
  go_ret
  exact ⟨v', rfl, OwnI.of HO2.out, HB2.out⟩
end Go.Proofs.Ythohnnobahcdpaa.own1
