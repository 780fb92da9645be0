/- How an argument that is a list of lists of integers is opened: plain lemma, no condition. -/
import Derived.Test.YtncidajjeccbkaaGrid
namespace Go.Proofs.Ytncidajjeccbkaa.grid
open Go.ChangeShapes Go.WideShapes Go.ChangeAt Go.RowKit Go.Deep

theorem rows {H : Type} {enc : TypeId × Value → H} {P : Program} {W : World} {base : Nat} {t e q : TypeId} {v : Value} {d : DataW H} {ps : List MemPlace}
    (ht : P.underlying t = some (.slice e)) (he : P.underlying e = some (.slice q)) (hq : P.underlying q = some (.int .i64)) (ce : P.cellsOf e = 1) (cq : P.cellsOf q = 1)
    (hv : Value.okWide P W .any base t v) (h : DataW.Trod enc P W 0 (fun _ => true) true t v d ps) :
    ∃ (a : Option Addr) (rows : List (List Int)) (cap : Nat), v = .slice a rows.length cap ∧ Reads W a rows ∧ (∀ r ∈ rows, r.length ≤ maxLen ∧ ∀ z ∈ r, Fits z) ∧ rows.length ≤ maxLen ∧ rows.length ≤ cap := by
  obtain ⟨a0, len, cap, rfl⟩ := okWide_slice ht hv
  obtain ⟨fuel, hf⟩ := h
  exact gridC ht he hq ce cq hf
end Go.Proofs.Ytncidajjeccbkaa.grid
