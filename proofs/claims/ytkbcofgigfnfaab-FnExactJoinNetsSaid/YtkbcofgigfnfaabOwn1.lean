/- The walk of the model's copy of a list that is not empty, and what lies behind an address as values. -/
import Derived.Test.YtkbcofgigfnfaabIntFns
import Derived.Test.YtkbcofgigfnfaabOwnG
import Derived.OwnWalk
import Derived.RangeFuncBox
namespace Go.Proofs.Ytkbcofgigfnfaab.own1
open Go.RowKit own
set_option linter.unusedVariables false

theorem infoInt : (Try.prog.info? 3).map (fun i => (i.zero, i.size, i.bytes)) = some (some (.int .i64 0), 1, 8) := by kernel_rfl

theorem reads_pos {w : World} {a : Option Addr} {zs : List Int} (h : ints.Reads .i64 w a zs) (h0 : 0 < zs.length) :
    ∃ b off, a = some ⟨b, off, none⟩ ∧ b < w.heap.size ∧ ∀ i, i < zs.length → w.cell? ⟨b, off + i, none⟩ = some (.int .i64 (zs.getD i 0)) := by
  rcases h with rfl | h
  · simp at h0
  · exact h

theorem news_at {w : World} {b off : Nat} {zs : List Int} (h : ∀ i, i < zs.length → w.cell? ⟨b, off + i, none⟩ = some (.int .i64 (zs.getD i 0))) : ∀ j u, (zs.map (Value.int .i64))[j]? = some u → w.cell? ((⟨b, off, none⟩ : Addr).add j) = some u := by
  intro j u hu
  rw [Go.WideShapes.add_plain]
  rw [List.getElem?_map] at hu
  obtain ⟨z, hz, rfl⟩ := Option.map_eq_some_iff.1 hu
  have hj : j < zs.length := (List.getElem?_eq_some_iff.1 hz).1
  rw [h j hj, List.getD_eq_getElem?_getD, hz]
  rfl

set_option maxRecDepth 100000 in
set_option maxHeartbeats 1000000 in
theorem spec_own (a : Option Addr) (zs : List Int) (c : Nat) (w : World) (hr : ints.Reads .i64 w a zs) (hn : zs.length ≤ 1048576) (h0 : 0 < zs.length) :
    Calls Try.prog 99 #[.slice a zs.length c] w (intfns.Made zs w) := by
  obtain ⟨i0, hi, hz0, hz1, hz2⟩ := info_parts infoInt
  obtain ⟨b, off, rfl, hb, hc⟩ := reads_pos hr h0
  have hb0 := below_alloc w (.cells #[] 3)
  have HN := Lib.hid (news_at (w := w.alloc (.cells #[] 3)) fun i hi => (hb0.cell (p := ⟨b, off + i, none⟩) hb).trans (hc i hi))
  have HB := Lib.hid hb0
  have HO := Lib.hid (show (w.alloc (.cells #[] 3)).ownsRow w.heap.size 3 1 (.slice (some ⟨w.heap.size, 0, none⟩) 0 0) 0 [] from (own_empty w).1)
  clear hr hc hb0
  go_enter Try.func99, Try.ntmps99
  go_wp2_with (at_builtin; refine wpList_append_own _ rfl _ _ 23 rfl w.heap.size 3 i0 (.int .i64 0) 1 8 Try.underlying23 hi hz0 hz1 hz2 rfl (by decide) _ _ _ rfl HO.out ⟨b, off, none⟩ zs.length c (zs.map (Value.int .i64)) rfl (by simp) HN.out (by simp [Value.oneCell']) (by unfold maxLen; omega) (by omega) (by simp) ?_; intro v' w2 hown' hgrow _)
  have HO2 := Lib.hid (show w2.ownsRow w.heap.size 3 1 v' zs.length (zs.map (Value.int .i64)) by simpa using hown')
  have HB2 := Lib.hid (HB.out.grown hgrow (by simp) (fun g e => (HO.out.lt g e).1))
  clear hown' hgrow
  go_wp2_with fail
  go_ret
  exact ⟨v', rfl, OwnI.of HO2.out, HB2.out⟩
end Go.Proofs.Ytkbcofgigfnfaab.own1
