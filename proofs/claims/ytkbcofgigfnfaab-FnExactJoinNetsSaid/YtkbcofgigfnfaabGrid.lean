/- Lists of lists of integers in memory, and how arguments with them are opened: plain lemmas, no condition. -/
import Derived.Test.YtkbcofgigfnfaabOpen
import Derived.Deep.Matrix
import Derived.Lib.SmallJoins
namespace Go.Proofs.Ytkbcofgigfnfaab.grid
open Go.ChangeShapes Go.WideShapes Go.ChangeAt Go.RowKit Go.Deep

/-- The slice with this address reads as these rows in the world w. -/
def Reads (w : World) (a : Option Addr) (rows : List (List Int)) : Prop :=
  rows = [] ∨ ∃ b off, a = some ⟨b, off, none⟩ ∧ b < w.heap.size ∧ ∀ i, i < rows.length → ∃ p c, w.cell? ⟨b, off + i, none⟩ = some (.slice p (rows.getD i []).length c) ∧ (rows.getD i []).length ≤ c ∧ ints.Reads .i64 w p (rows.getD i [])

theorem Reads.at {w : World} {a : Option Addr} {rows : List (List Int)} (h : Reads w a rows) {k : Nat} (hk : k < rows.length) :
    ∃ b off p c, a = some ⟨b, off, none⟩ ∧ b < w.heap.size ∧ w.cell? ⟨b, off + k, none⟩ = some (.slice p (rows.getD k []).length c) ∧ (rows.getD k []).length ≤ c ∧ ints.Reads .i64 w p (rows.getD k []) := by
  rcases h with rfl | ⟨b, off, e, hb, hc⟩
  · simp at hk
  · obtain ⟨p, c, h1, h2, h3⟩ := hc k hk
    exact ⟨b, off, p, c, e, hb, h1, h2, h3⟩

theorem Reads.below {w w' : World} {a : Option Addr} {rows : List (List Int)} (h : Reads w a rows) (hb : Below w.heap.size w w') : Reads w' a rows := by
  rcases h with rfl | ⟨b, off, e, hlt, hc⟩
  · exact .inl rfl
  · refine .inr ⟨b, off, e, Nat.lt_of_lt_of_le hlt hb.size, fun i hi => ?_⟩
    obtain ⟨p, c, h1, h2, h3⟩ := hc i hi
    exact ⟨p, c, (hb.cell (p := ⟨b, off + i, none⟩) hlt).trans h1, h2, h3.below hb⟩

/-- The rows' lengths together. -/
def tot (rows : List (List Int)) : Nat := (rows.map List.length).sum

theorem tot_take_succ (rows : List (List Int)) (k : Nat) (h : k < rows.length) : tot (rows.take (k + 1)) = tot (rows.take k) + (rows.getD k []).length := by
  unfold tot
  rw [List.take_succ_eq_append_getElem h, List.map_append, List.sum_append, List.getD_eq_getElem?_getD, List.getElem?_eq_getElem h]
  simp only [List.map_cons, List.map_nil, List.sum_cons, List.sum_nil, Nat.add_zero, Option.getD_some]

theorem tot_take_le (rows : List (List Int)) (k : Nat) : tot (rows.take k) ≤ tot rows := by
  induction rows generalizing k with
  | nil => simp [tot]
  | cons x r ih =>
    cases k with
    | zero => simp [tot]
    | succ k =>
      have := ih k
      simp only [tot, List.take_succ_cons, List.map_cons, List.sum_cons] at *
      omega

theorem tot_all (rows : List (List Int)) : tot (rows.take rows.length) = tot rows := by rw [List.take_length]

theorem getD_le_tot (rows : List (List Int)) (k : Nat) : (rows.getD k []).length ≤ tot rows := by
  by_cases h : k < rows.length
  · have h1 := tot_take_succ rows k h
    have h2 := tot_take_le rows (k + 1)
    omega
  · rw [List.getD_eq_getElem?_getD, List.getElem?_eq_none (by omega)]; simp

theorem len_le_tot (rows : List (List Int)) (s : List Int) (h : s ∈ rows) : s.length ≤ tot rows := by
  induction rows with
  | nil => cases h
  | cons x r ih =>
    simp only [tot, List.map_cons, List.sum_cons] at *
    cases List.mem_cons.1 h with
    | inl e => subst e; omega
    | inr e => have := ih e; omega

/-- A number that fits. -/
def Fits (z : Int) : Prop := -9223372036854775808 ≤ z ∧ z ≤ 9223372036854775807

theorem fits_of {z : Int} (h : (Lit.int .i64 z).wf = true) : Fits z := by
  simpa [Fits, Lit.wf, IntKind.min, IntKind.max, IntKind.signed, IntKind.bits] using h

section
variable {H : Type} {enc : TypeId × Value → H} {P : Program} {W : World}

/-- A list of integers that stands in one cell. -/
theorem intsC {t e : TypeId} {fuel : Nat} {v : Value} {x : DataW H × List MemPlace}
    (ht : P.underlying t = some (.slice e)) (he : P.underlying e = some (.int .i64)) (hc : P.cellsOf e = 1) (h : DataW.trod enc P W 0 (fun _ => true) true fuel t [v] = some x) :
    ∃ (a : Option Addr) (zs : List Int) (cap : Nat), v = .slice a zs.length cap ∧ ints.Reads .i64 W a zs ∧ (∀ z ∈ zs, Fits z) ∧ zs.length ≤ maxLen ∧ zs.length ≤ cap := by
  rcases open_ints ht he hc h with ⟨hcs, _⟩ | ⟨a, len, cap, zs, hcs, _, hl, hm, hz, _, hcell, hws⟩
  · simp at hcs
    subst hcs
    exact ⟨none, [], 0, rfl, .inl rfl, by simp, by simp, by simp⟩
  · simp at hcs
    subst hcs
    simp at hz
    have hlen : (zs.take len).length = len := by simp; omega
    refine ⟨some a, zs.take len, cap, by rw [hlen], ?_, fun s hs => fits_of (hws s (List.mem_of_mem_take hs)), by omega, by omega⟩
    by_cases h0 : len = 0
    · left; subst h0; rfl
    · right
      obtain ⟨b, off, spot⟩ := a
      have hspot : spot = none := by simpa [Addr.add] using World.cell?_spot (hcell 0 (by omega))
      subst hspot
      refine ⟨b, off, rfl, World.block_lt_of_cell? W _ (hcell 0 (by omega)), fun i hi => ?_⟩
      rw [hlen] at hi
      have hx := hcell i (by omega)
      rw [add_plain] at hx
      rw [hx, List.getD_eq_getElem?_getD, List.getD_eq_getElem?_getD, List.getElem?_take, if_pos hi]

/-- An integer that stands in one cell. -/
theorem intC {t : TypeId} {fuel : Nat} {v : Value} {x : DataW H × List MemPlace} (ht : P.underlying t = some (.int .i64)) (h : DataW.trod enc P W 0 (fun _ => true) true fuel t [v] = some x) : ∃ z : Int, v = .int .i64 z ∧ Fits z := by
  obtain ⟨z, hz, _, hw⟩ := DataW.trod_int ht h
  simp at hz
  exact ⟨z, hz, fits_of hw⟩

/-- A list of lists of integers that stands in one cell. -/
theorem gridC {t e q : TypeId} {fuel : Nat} {v : Value} {x : DataW H × List MemPlace}
    (ht : P.underlying t = some (.slice e)) (he : P.underlying e = some (.slice q)) (hq : P.underlying q = some (.int .i64)) (ce : P.cellsOf e = 1) (cq : P.cellsOf q = 1) (h : DataW.trod enc P W 0 (fun _ => true) true fuel t [v] = some x) :
    ∃ (a : Option Addr) (rows : List (List Int)) (cap : Nat), v = .slice a rows.length cap ∧ Reads W a rows ∧ (∀ r ∈ rows, r.length ≤ maxLen ∧ ∀ z ∈ r, Fits z) ∧ rows.length ≤ maxLen ∧ rows.length ≤ cap := by
  rcases open_int_rows ht he hq ce cq h with ⟨hcs, _⟩ | ⟨a, len, cap, A, L, C, Z, hcs, _, hl, hm, _, hr⟩
  · simp at hcs
    subst hcs
    exact ⟨none, [], 0, rfl, .inl rfl, by simp, by simp, by simp⟩
  · simp at hcs
    subst hcs
    have hlen : ((List.range len).map fun r => (Z r).take (L r)).length = len := by simp
    have hrow : ∀ r, r < len → ((Z r).take (L r)).length = L r := fun r h => by
      obtain ⟨_, h1, _, h2, _⟩ := hr r (by omega)
      simp; omega
    refine ⟨some a, (List.range len).map fun r => (Z r).take (L r), cap, by rw [hlen], ?_, fun r h => ?_, by omega, by omega⟩
    · by_cases h0 : len = 0
      · left; subst h0; rfl
      · right
        obtain ⟨b, off, spot⟩ := a
        have hspot : spot = none := by simpa [Addr.add] using World.cell?_spot (hr 0 (by omega)).1
        subst hspot
        refine ⟨b, off, rfl, World.block_lt_of_cell? W _ (hr 0 (by omega)).1, fun i hi => ?_⟩
        rw [hlen] at hi
        obtain ⟨hcell, h1, h2, h3, h4, h5, h6⟩ := hr i (by omega)
        have hg : ((List.range len).map fun r => (Z r).take (L r)).getD i [] = (Z i).take (L i) := by
          rw [List.getD_eq_getElem?_getD]; simp [hi]
        rw [hg, hrow i hi]
        rw [add_plain] at hcell
        refine ⟨A i, C i, hcell, h1, ?_⟩
        by_cases hL : L i = 0
        · left; rw [hL]; rfl
        · right
          cases hA : A i with
          | none => have := h5 hA; omega
          | some a' =>
            obtain ⟨_, h7⟩ := h6 a' hA
            obtain ⟨b', off', spot'⟩ := a'
            have hspot' : spot' = none := by simpa [Addr.add] using World.cell?_spot (h7 0 (by omega))
            subst hspot'
            refine ⟨b', off', rfl, World.block_lt_of_cell? W _ (h7 0 (by omega)), fun c hc => ?_⟩
            rw [hrow i hi] at hc
            have hx := h7 c (by omega)
            rw [add_plain] at hx
            rw [hx, List.getD_eq_getElem?_getD, List.getD_eq_getElem?_getD, List.getElem?_take, if_pos hc]
    · obtain ⟨k, hk, rfl⟩ := List.mem_map.1 h
      have hk' : k < len := by simpa using hk
      obtain ⟨_, h1, h2, h3, h4, _⟩ := hr k (by omega)
      exact ⟨by rw [hrow k hk']; omega, fun z hz => fits_of (h4 z (List.mem_of_mem_take hz))⟩

/-- A struct of a list of integers and an integer. -/
theorem plane {t u i b : TypeId} {f0 f1 : Field} {base : Nat} {v : Value} {d : DataW H} {ps : List MemPlace} (hs : P.underlying t = some (.struct #[f0, f1])) (hone : oneCellFields P #[f0, f1] = true) (hC : P.cellsOf t = 2)
    (h0 : f0.type = u) (h1 : f1.type = b) (hu : P.underlying u = some (.slice i)) (hi : P.underlying i = some (.int .i64)) (ci : P.cellsOf i = 1) (hb : P.underlying b = some (.int .i64))
    (hv : Value.okWide P W .any base t v) (h : DataW.Trod enc P W 0 (fun _ => true) true t v d ps) :
    ∃ (a : Option Addr) (zs : List Int) (cap : Nat) (z : Int), v = .agg #[.slice a zs.length cap, .int .i64 z] ∧ ints.Reads .i64 W a zs ∧ (∀ z ∈ zs, Fits z) ∧ zs.length ≤ maxLen ∧ zs.length ≤ cap ∧ Fits z := by
  subst h0 h1
  obtain ⟨v0, v1, y0, y1, n, rfl, _, _, g0, g1⟩ := Go.Joins.open_agg2 hs hone hC hv h
  obtain ⟨a, zs, cap, rfl, r1, r2, r3, r4⟩ := intsC hu hi ci g0
  obtain ⟨z, hz, hw⟩ := intC hb g1
  subst hz
  exact ⟨a, zs, cap, z, rfl, r1, r2, r3, r4, hw⟩

/-- A struct of a list of lists of integers and a list of integers. -/
theorem sample {t g q u i : TypeId} {f0 f1 : Field} {base : Nat} {v : Value} {d : DataW H} {ps : List MemPlace} (hs : P.underlying t = some (.struct #[f0, f1])) (hone : oneCellFields P #[f0, f1] = true) (hC : P.cellsOf t = 2)
    (h0 : f0.type = g) (h1 : f1.type = u) (hg : P.underlying g = some (.slice q)) (hq : P.underlying q = some (.slice i)) (cq : P.cellsOf q = 1) (hu : P.underlying u = some (.slice i)) (hi : P.underlying i = some (.int .i64)) (ci : P.cellsOf i = 1)
    (hv : Value.okWide P W .any base t v) (h : DataW.Trod enc P W 0 (fun _ => true) true t v d ps) :
    ∃ (a : Option Addr) (rows : List (List Int)) (cap : Nat) (a' : Option Addr) (zs : List Int) (cap' : Nat), v = .agg #[.slice a rows.length cap, .slice a' zs.length cap'] ∧
      Reads W a rows ∧ (∀ r ∈ rows, r.length ≤ maxLen ∧ ∀ z ∈ r, Fits z) ∧ rows.length ≤ maxLen ∧ rows.length ≤ cap ∧ ints.Reads .i64 W a' zs ∧ (∀ z ∈ zs, Fits z) ∧ zs.length ≤ maxLen ∧ zs.length ≤ cap' := by
  subst h0 h1
  obtain ⟨v0, v1, y0, y1, n, rfl, _, _, g0, g1⟩ := Go.Joins.open_agg2 hs hone hC hv h
  obtain ⟨a, rows, cap, rfl, r1, r2, r3, r4⟩ := gridC hg hq hi cq ci g0
  obtain ⟨a', zs, cap', rfl, s1, s2, s3, s4⟩ := intsC hu hi ci g1
  exact ⟨a, rows, cap, a', zs, cap', rfl, r1, r2, r3, r4, s1, s2, s3, s4⟩
end
end Go.Proofs.Ytkbcofgigfnfaab.grid
