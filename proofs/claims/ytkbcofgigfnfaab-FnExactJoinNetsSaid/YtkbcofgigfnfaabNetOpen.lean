/- How an argument that is a net is opened: plain lemmas, no condition. -/
import Derived.Test.YtkbcofgigfnfaabPlaneSOpen
import Derived.Test.YtkbcofgigfnfaabNetL
namespace Go.Proofs.Ytkbcofgigfnfaab.grid
open Go.ChangeShapes Go.WideShapes Go.ChangeAt Go.RowKit Go.Deep

section
variable {H : Type} {enc : TypeId × Value → H} {P : Program} {W : World}

/-- A list of lists of planes that stands in one cell. -/
theorem laysC {s t e i : TypeId} {f0 f1 : Field} {fuel : Nat} {v : Value} {x : DataW H × List MemPlace}
    (hs : P.underlying s = some (.slice t)) (cs : P.cellsOf t = 1) (ht : P.underlying t = some (.slice e)) (he : P.underlying e = some (.struct #[f0, f1])) (ce : P.cellsOf e = 2) (o0 : f0.offset = 0) (o1 : f1.offset = 1) (c0 : P.cellsOf f0.type = 1) (c1 : P.cellsOf f1.type = 1)
    (hu : P.underlying f0.type = some (.slice i)) (hi : P.underlying i = some (.int .i64)) (ci : P.cellsOf i = 1) (hb : P.underlying f1.type = some (.int .i64)) (h : DataW.trod enc P W 0 (fun _ => true) true fuel s [v] = some x) :
    ∃ (a : Option Addr) (ls : List (List (List Int × Int))) (cap : Nat), v = .slice a ls.length cap ∧ own.ReadsL W a ls ∧ (∀ l ∈ ls, l.length ≤ maxLen ∧ ∀ y ∈ l, y.1.length ≤ maxLen ∧ (∀ z ∈ y.1, Fits z) ∧ Fits y.2) ∧ ls.length ≤ maxLen ∧ ls.length ≤ cap := by
  rcases open_slice1 hs cs h with ⟨hcs, _⟩ | ⟨a, len, cap, m, n, V, D, Pl, hcs, _, hl, hm, hmm, _, hr⟩
  · simp at hcs
    subst hcs
    exact ⟨none, [], 0, rfl, .inl rfl, by simp, by simp, by simp⟩
  · simp at hcs
    subst hcs
    have hlm : len ≤ m := by rw [hmm]; split <;> omega
    have each : ∀ j, j < len → ∃ q : Option Addr × List (List Int × Int) × Nat, V j = .slice q.1 q.2.1.length q.2.2 ∧ own.ReadsJ W q.1 q.2.1 ∧ (∀ y ∈ q.2.1, y.1.length ≤ maxLen ∧ (∀ z ∈ y.1, Fits z) ∧ Fits y.2) ∧ q.2.1.length ≤ maxLen ∧ q.2.1.length ≤ q.2.2 := by
      intro j hj
      obtain ⟨_, g⟩ := hr j (by omega)
      obtain ⟨p, ps, c, h1, h2, h3, h4, h5⟩ := planesC ht he ce o0 o1 c0 c1 hu hi ci hb g
      exact ⟨(p, ps, c), h1, h2, h3, h4, h5⟩
    obtain ⟨q, hq⟩ := choose_lt each
    have hlen : ((List.range len).map fun j => (q j).2.1).length = len := by simp
    refine ⟨some a, (List.range len).map fun j => (q j).2.1, cap, by rw [hlen], ?_, fun y hy => ?_, by omega, by omega⟩
    · by_cases h0 : len = 0
      · left; subst h0; rfl
      · right
        obtain ⟨b, off, spot⟩ := a
        have hspot : spot = none := by simpa [Addr.add] using World.cell?_spot (hr 0 (by omega)).1
        subst hspot
        refine ⟨b, off, rfl, World.block_lt_of_cell? W _ (hr 0 (by omega)).1, fun k hk => ?_⟩
        rw [hlen] at hk
        obtain ⟨e0, _⟩ := hr k (by omega)
        obtain ⟨h1, h2, h3, h4, h5⟩ := hq k hk
        have hg : ((List.range len).map fun j => (q j).2.1).getD k [] = (q k).2.1 := by
          rw [List.getD_eq_getElem?_getD]; simp [hk]
        rw [hg]
        rw [add_plain, h1] at e0
        exact ⟨(q k).1, (q k).2.2, e0, h5, h2⟩
    · obtain ⟨k, hk, rfl⟩ := List.mem_map.1 hy
      have hk' : k < len := by simpa using hk
      obtain ⟨h1, h2, h3, h4, h5⟩ := hq k hk'
      exact ⟨h4, h3⟩

/-- A struct of an integer and a list of lists of planes. -/
theorem net {r b s t e i : TypeId} {g0 g1 f0 f1 : Field} {base : Nat} {v : Value} {d : DataW H} {ps : List MemPlace} (hS : P.underlying r = some (.struct #[g0, g1])) (hone : oneCellFields P #[g0, g1] = true) (hC : P.cellsOf r = 2)
    (h0 : g0.type = b) (h1 : g1.type = s) (hB : P.underlying b = some (.int .i64))
    (hs : P.underlying s = some (.slice t)) (cs : P.cellsOf t = 1) (ht : P.underlying t = some (.slice e)) (he : P.underlying e = some (.struct #[f0, f1])) (ce : P.cellsOf e = 2) (o0 : f0.offset = 0) (o1 : f1.offset = 1) (c0 : P.cellsOf f0.type = 1) (c1 : P.cellsOf f1.type = 1)
    (hu : P.underlying f0.type = some (.slice i)) (hi : P.underlying i = some (.int .i64)) (ci : P.cellsOf i = 1) (hb : P.underlying f1.type = some (.int .i64))
    (hv : Value.okWide P W .any base r v) (h : DataW.Trod enc P W 0 (fun _ => true) true r v d ps) :
    ∃ (a : Option Addr) (ls : List (List (List Int × Int))) (cap : Nat) (z : Int), v = .agg #[.int .i64 z, .slice a ls.length cap] ∧ own.ReadsL W a ls ∧ (∀ l ∈ ls, l.length ≤ maxLen ∧ ∀ y ∈ l, y.1.length ≤ maxLen ∧ (∀ z ∈ y.1, Fits z) ∧ Fits y.2) ∧ ls.length ≤ maxLen ∧ ls.length ≤ cap ∧ Fits z := by
  subst h0 h1
  obtain ⟨v0, v1, y0, y1, n, rfl, _, _, k0, k1⟩ := Go.Joins.open_agg2 hS hone hC hv h
  obtain ⟨z, hz, hw⟩ := intC hB k0
  obtain ⟨a, ls, cap, rfl, r1, r2, r3, r4⟩ := laysC hs cs ht he ce o0 o1 c0 c1 hu hi ci hb k1
  subst hz
  exact ⟨a, ls, cap, z, rfl, r1, r2, r3, r4, hw⟩
end
end Go.Proofs.Ytkbcofgigfnfaab.grid
