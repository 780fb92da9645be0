/- How an argument that is a list of planes is opened: plain lemmas, no condition. -/
import Derived.Test.YtkbcofgigfnfaabGrid
import Derived.Test.YtkbcofgigfnfaabPlanesL
import Derived.Deep.SlicePairs
namespace Go.Proofs.Ytkbcofgigfnfaab.grid
open Go.ChangeShapes Go.WideShapes Go.ChangeAt Go.RowKit Go.Deep

section
variable {H : Type} {enc : TypeId × Value → H} {P : Program} {W : World}

/-- A list of planes that stands in one cell. -/
theorem planesC {t e i : TypeId} {f0 f1 : Field} {fuel : Nat} {v : Value} {x : DataW H × List MemPlace}
    (ht : P.underlying t = some (.slice e)) (he : P.underlying e = some (.struct #[f0, f1])) (ce : P.cellsOf e = 2) (o0 : f0.offset = 0) (o1 : f1.offset = 1) (c0 : P.cellsOf f0.type = 1) (c1 : P.cellsOf f1.type = 1)
    (hu : P.underlying f0.type = some (.slice i)) (hi : P.underlying i = some (.int .i64)) (ci : P.cellsOf i = 1) (hb : P.underlying f1.type = some (.int .i64)) (h : DataW.trod enc P W 0 (fun _ => true) true fuel t [v] = some x) :
    ∃ (a : Option Addr) (ps : List (List Int × Int)) (cap : Nat), v = .slice a ps.length cap ∧ own.ReadsJ W a ps ∧ (∀ y ∈ ps, y.1.length ≤ maxLen ∧ (∀ z ∈ y.1, Fits z) ∧ Fits y.2) ∧ ps.length ≤ maxLen ∧ ps.length ≤ cap := by
  rcases open_slice_pairs ht he ce o0 o1 c0 c1 h with ⟨hcs, _⟩ | ⟨a, len, cap, m, n, V0, V1, D0, D1, P0, P1, hcs, _, hl, hm, hmm, _, hr⟩
  · simp at hcs
    subst hcs
    exact ⟨none, [], 0, rfl, .inl rfl, by simp, by simp, by simp⟩
  · simp at hcs
    subst hcs
    have hlm : len ≤ m := by rw [hmm]; split <;> omega
    have each : ∀ j, j < len → ∃ q : Option Addr × List Int × Nat × Int, V0 j = .slice q.1 q.2.1.length q.2.2.1 ∧ ints.Reads .i64 W q.1 q.2.1 ∧ (∀ z ∈ q.2.1, Fits z) ∧ q.2.1.length ≤ maxLen ∧ q.2.1.length ≤ q.2.2.1 ∧ V1 j = .int .i64 q.2.2.2 ∧ Fits q.2.2.2 := by
      intro j hj
      obtain ⟨_, _, g0, g1⟩ := hr j (by omega)
      obtain ⟨p, zs, c, h1, h2, h3, h4, h5⟩ := intsC hu hi ci g0
      obtain ⟨z, h6, h7⟩ := intC hb g1
      exact ⟨(p, zs, c, z), h1, h2, h3, h4, h5, h6, h7⟩
    obtain ⟨q, hq⟩ := choose_lt each
    have hlen : ((List.range len).map fun j => ((q j).2.1, (q j).2.2.2)).length = len := by simp
    refine ⟨some a, (List.range len).map fun j => ((q j).2.1, (q j).2.2.2), cap, by rw [hlen], ?_, fun y hy => ?_, by omega, by omega⟩
    · by_cases h0 : len = 0
      · left; subst h0; rfl
      · right
        obtain ⟨b, off, spot⟩ := a
        have hspot : spot = none := by simpa [Addr.add] using World.cell?_spot (hr 0 (by omega)).1
        subst hspot
        refine ⟨b, off, rfl, World.block_lt_of_cell? W _ (hr 0 (by omega)).1, fun k hk => ?_⟩
        rw [hlen] at hk
        obtain ⟨e0, e1, _, _⟩ := hr k (by omega)
        obtain ⟨h1, h2, h3, h4, h5, h6, h7⟩ := hq k hk
        have hg : ((List.range len).map fun j => ((q j).2.1, (q j).2.2.2)).getD k ([], 0) = ((q k).2.1, (q k).2.2.2) := by
          rw [List.getD_eq_getElem?_getD]; simp [hk]
        rw [hg]
        rw [add_plain, h1] at e0
        rw [add_plain, h6] at e1
        exact ⟨(q k).1, (q k).2.2.1, e0, by rw [Nat.add_assoc]; exact e1, h5, h2⟩
    · obtain ⟨k, hk, rfl⟩ := List.mem_map.1 hy
      have hk' : k < len := by simpa using hk
      obtain ⟨h1, h2, h3, h4, h5, h6, h7⟩ := hq k hk'
      exact ⟨h4, h3, h7⟩

theorem planes {t e i : TypeId} {f0 f1 : Field} {base : Nat} {v : Value} {d : DataW H} {ps : List MemPlace}
    (ht : P.underlying t = some (.slice e)) (he : P.underlying e = some (.struct #[f0, f1])) (ce : P.cellsOf e = 2) (o0 : f0.offset = 0) (o1 : f1.offset = 1) (c0 : P.cellsOf f0.type = 1) (c1 : P.cellsOf f1.type = 1)
    (hu : P.underlying f0.type = some (.slice i)) (hi : P.underlying i = some (.int .i64)) (ci : P.cellsOf i = 1) (hb : P.underlying f1.type = some (.int .i64))
    (hv : Value.okWide P W .any base t v) (h : DataW.Trod enc P W 0 (fun _ => true) true t v d ps) :
    ∃ (a : Option Addr) (qs : List (List Int × Int)) (cap : Nat), v = .slice a qs.length cap ∧ own.ReadsJ W a qs ∧ (∀ y ∈ qs, y.1.length ≤ maxLen ∧ (∀ z ∈ y.1, Fits z) ∧ Fits y.2) ∧ qs.length ≤ maxLen ∧ qs.length ≤ cap := by
  obtain ⟨a0, len, cap, rfl⟩ := okWide_slice ht hv
  obtain ⟨fuel, hf⟩ := h
  exact planesC ht he ce o0 o1 c0 c1 hu hi ci hb hf
end
end Go.Proofs.Ytkbcofgigfnfaab.grid
