/- The walk of the model's copy of a list that is not empty, and what lies behind an address as values. -/
import Derived.Test.YtkcpncngkmnmdaaIntFns
import Derived.Test.YtkcpncngkmnmdaaOwnG
import Derived.OwnWalk
import Derived.RangeFuncBox
namespace Go.Proofs.Ytkcpncngkmnmdaa.own1
open Go.RowKit own
set_option linter.unusedVariables false

theorem infoInt : (Try.prog.info? 3).map (fun i => (i.zero, i.size, i.bytes)) = some (some (.int .i64 0), 1, 8) := by kernel_rfl

theorem reads_pos {w : World} {a : Option Addr} {zs : List Int} (h : ints.Reads .i64 w a zs) (h0 : 0 < zs.length) :
    ∃ b off, a = some ⟨b, off, none⟩ ∧ b < w.heap.size ∧ ∀ i, i < zs.length → w.cell? ⟨b, off + i, none⟩ = some (.int .i64 (zs.getD i 0)) := by
  rcases h with rfl | h
  · simp at h0
  · exact h

theorem news_at {w : World} {b off : Nat} {zs : List Int} (h : ∀ i, i < zs.length → w.cell? ⟨b, off + i, none⟩ = some (.int .i64 (zs.getD i 0))) : ∀ j u, (zs.map (Value.int .i64))[j]? = some u → w.cell? ((⟨b, off, none⟩ : Addr).add j) = some u := by
  intro j u hu
  rw [Go.WideShapes.add_plain]
  rw [List.getElem?_map] at hu
  obtain ⟨z, hz, rfl⟩ := Option.map_eq_some_iff.1 hu
  have hj : j < zs.length := (List.getElem?_eq_some_iff.1 hz).1
  rw [h j hj, List.getD_eq_getElem?_getD, hz]
  rfl

end Go.Proofs.Ytkcpncngkmnmdaa.own1
