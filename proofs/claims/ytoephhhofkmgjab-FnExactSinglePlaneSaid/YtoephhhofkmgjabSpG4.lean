/- Several texts in one. -/
import Derived.Deep.Matrix
import Derived.Lib.SmallJoins
import Derived.Test.YtoephhhofkmgjabOpen
import Derived.Test.YtoephhhofkmgjabInts
namespace Go.Proofs.Ytoephhhofkmgjab.grid
open Go.ChangeShapes Go.WideShapes Go.ChangeAt Go.RowKit Go.Deep

/-- The slice with this address reads as these rows in the world w. -/
def Reads (w : World) (a : Option Addr) (rows : List (List Int)) : Prop :=
  rows = [] ∨ ∃ b off, a = some ⟨b, off, none⟩ ∧ b < w.heap.size ∧ ∀ i, i < rows.length → ∃ p c, w.cell? ⟨b, off + i, none⟩ = some (.slice p (rows.getD i []).length c) ∧ (rows.getD i []).length ≤ c ∧ ints.Reads .i64 w p (rows.getD i [])

theorem Reads.at {w : World} {a : Option Addr} {rows : List (List Int)} (h : Reads w a rows) {k : Nat} (hk : k < rows.length) :
    ∃ b off p c, a = some ⟨b, off, none⟩ ∧ b < w.heap.size ∧ w.cell? ⟨b, off + k, none⟩ = some (.slice p (rows.getD k []).length c) ∧ (rows.getD k []).length ≤ c ∧ ints.Reads .i64 w p (rows.getD k []) := by
  rcases h with rfl | ⟨b, off, e, hb, hc⟩
  · simp at hk
  · obtain ⟨p, c, h1, h2, h3⟩ := hc k hk
    exact ⟨b, off, p, c, e, hb, h1, h2, h3⟩

theorem Reads.below {w w' : World} {a : Option Addr} {rows : List (List Int)} (h : Reads w a rows) (hb : Below w.heap.size w w') : Reads w' a rows := by
  rcases h with rfl | ⟨b, off, e, hlt, hc⟩
  · exact .inl rfl
  · refine .inr ⟨b, off, e, Nat.lt_of_lt_of_le hlt hb.size, fun i hi => ?_⟩
    obtain ⟨p, c, h1, h2, h3⟩ := hc i hi
    exact ⟨p, c, (hb.cell (p := ⟨b, off + i, none⟩) hlt).trans h1, h2, h3.below hb⟩

/-- The rows' lengths together. -/
def tot (rows : List (List Int)) : Nat := (rows.map List.length).sum

theorem tot_take_succ (rows : List (List Int)) (k : Nat) (h : k < rows.length) : tot (rows.take (k + 1)) = tot (rows.take k) + (rows.getD k []).length := by
  unfold tot
  rw [List.take_succ_eq_append_getElem h, List.map_append, List.sum_append, List.getD_eq_getElem?_getD, List.getElem?_eq_getElem h]
  simp only [List.map_cons, List.map_nil, List.sum_cons, List.sum_nil, Nat.add_zero, Option.getD_some]

theorem tot_take_le (rows : List (List Int)) (k : Nat) : tot (rows.take k) ≤ tot rows := by
  induction rows generalizing k with
  | nil => simp [tot]
  | cons x r ih =>
    cases k with
    | zero => simp [tot]
    | succ k =>
      have := ih k
      simp only [tot, List.take_succ_cons, List.map_cons, List.sum_cons] at *
      omega

theorem tot_all (rows : List (List Int)) : tot (rows.take rows.length) = tot rows := by rw [List.take_length]

theorem getD_le_tot (rows : List (List Int)) (k : Nat) : (rows.getD k []).length ≤ tot rows := by
  by_cases h : k < rows.length
  · have h1 := tot_take_succ rows k h
    have h2 := tot_take_le rows (k + 1)
    omega
  · rw [List.getD_eq_getElem?_getD, List.getElem?_eq_none (by omega)]; simp

theorem len_le_tot (rows : List (List Int)) (s : List Int) (h : s ∈ rows) : s.length ≤ tot rows := by
  induction rows with
  | nil => cases h
  | cons x r ih =>
    simp only [tot, List.map_cons, List.sum_cons] at *
    cases List.mem_cons.1 h with
    | inl e => subst e; omega
    | inr e => have := ih e; omega

/-- A number that fits. -/
def Fits (z : Int) : Prop := -9223372036854775808 ≤ z ∧ z ≤ 9223372036854775807

theorem fits_of {z : Int} (h : (Lit.int .i64 z).wf = true) : Fits z := by
  simpa [Fits, Lit.wf, IntKind.min, IntKind.max, IntKind.signed, IntKind.bits] using h

section
variable {H : Type} {enc : TypeId × Value → H} {P : Program} {W : World}

/-- A list of integers that stands in one cell. -/
theorem intsC {t e : TypeId} {fuel : Nat} {v : Value} {x : DataW H × List MemPlace}
    (ht : P.underlying t = some (.slice e)) (he : P.underlying e = some (.int .i64)) (hc : P.cellsOf e = 1) (h : DataW.trod enc P W 0 (fun _ => true) true fuel t [v] = some x) :
    ∃ (a : Option Addr) (zs : List Int) (cap : Nat), v = .slice a zs.length cap ∧ ints.Reads .i64 W a zs ∧ (∀ z ∈ zs, Fits z) ∧ zs.length ≤ maxLen ∧ zs.length ≤ cap := by
  rcases open_ints ht he hc h with ⟨hcs, _⟩ | ⟨a, len, cap, zs, hcs, _, hl, hm, hz, _, hcell, hws⟩
  · simp at hcs
    subst hcs
    exact ⟨none, [], 0, rfl, .inl rfl, by simp, by simp, by simp⟩
  · simp at hcs
    subst hcs
    simp at hz
    have hlen : (zs.take len).length = len := by simp; omega
    refine ⟨some a, zs.take len, cap, by rw [hlen], ?_, fun s hs => fits_of (hws s (List.mem_of_mem_take hs)), by omega, by omega⟩
    by_cases h0 : len = 0
    · left; subst h0; rfl
    · right
      obtain ⟨b, off, spot⟩ := a
      have hspot : spot = none := by simpa [Addr.add] using World.cell?_spot (hcell 0 (by omega))
      subst hspot
      refine ⟨b, off, rfl, World.block_lt_of_cell? W _ (hcell 0 (by omega)), fun i hi => ?_⟩
      rw [hlen] at hi
      have hx := hcell i (by omega)
      rw [add_plain] at hx
      rw [hx, List.getD_eq_getElem?_getD, List.getD_eq_getElem?_getD, List.getElem?_take, if_pos hi]

/-- An integer that stands in one cell. -/
theorem intC {t : TypeId} {fuel : Nat} {v : Value} {x : DataW H × List MemPlace} (ht : P.underlying t = some (.int .i64)) (h : DataW.trod enc P W 0 (fun _ => true) true fuel t [v] = some x) : ∃ z : Int, v = .int .i64 z ∧ Fits z := by
  obtain ⟨z, hz, _, hw⟩ := DataW.trod_int ht h
  simp at hz
  exact ⟨z, hz, fits_of hw⟩

/-- A list of lists of integers that stands in one cell. -/
theorem gridC {t e q : TypeId} {fuel : Nat} {v : Value} {x : DataW H × List MemPlace}
    (ht : P.underlying t = some (.slice e)) (he : P.underlying e = some (.slice q)) (hq : P.underlying q = some (.int .i64)) (ce : P.cellsOf e = 1) (cq : P.cellsOf q = 1) (h : DataW.trod enc P W 0 (fun _ => true) true fuel t [v] = some x) :
    ∃ (a : Option Addr) (rows : List (List Int)) (cap : Nat), v = .slice a rows.length cap ∧ Reads W a rows ∧ (∀ r ∈ rows, r.length ≤ maxLen ∧ ∀ z ∈ r, Fits z) ∧ rows.length ≤ maxLen ∧ rows.length ≤ cap := by
  rcases open_int_rows ht he hq ce cq h with ⟨hcs, _⟩ | ⟨a, len, cap, A, L, C, Z, hcs, _, hl, hm, _, hr⟩
  · simp at hcs
    subst hcs
    exact ⟨none, [], 0, rfl, .inl rfl, by simp, by simp, by simp⟩
  · simp at hcs
    subst hcs
    have hlen : ((List.range len).map fun r => (Z r).take (L r)).length = len := by simp
    have hrow : ∀ r, r < len → ((Z r).take (L r)).length = L r := fun r h => by
      obtain ⟨_, h1, _, h2, _⟩ := hr r (by omega)
      simp; omega
    refine ⟨some a, (List.range len).map fun r => (Z r).take (L r), cap, by rw [hlen], ?_, fun r h => ?_, by omega, by omega⟩
    · by_cases h0 : len = 0
      · left; subst h0; rfl
      · right
        obtain ⟨b, off, spot⟩ := a
        have hspot : spot = none := by simpa [Addr.add] using World.cell?_spot (hr 0 (by omega)).1
        subst hspot
        refine ⟨b, off, rfl, World.block_lt_of_cell? W _ (hr 0 (by omega)).1, fun i hi => ?_⟩
        rw [hlen] at hi
        obtain ⟨hcell, h1, h2, h3, h4, h5, h6⟩ := hr i (by omega)
        have hg : ((List.range len).map fun r => (Z r).take (L r)).getD i [] = (Z i).take (L i) := by
          rw [List.getD_eq_getElem?_getD]; simp [hi]
        rw [hg, hrow i hi]
        rw [add_plain] at hcell
        refine ⟨A i, C i, hcell, h1, ?_⟩
        by_cases hL : L i = 0
        · left; rw [hL]; rfl
        · right
          cases hA : A i with
          | none => have := h5 hA; omega
          | some a' =>
            obtain ⟨_, h7⟩ := h6 a' hA
            obtain ⟨b', off', spot'⟩ := a'
            have hspot' : spot' = none := by simpa [Addr.add] using World.cell?_spot (h7 0 (by omega))
            subst hspot'
            refine ⟨b', off', rfl, World.block_lt_of_cell? W _ (h7 0 (by omega)), fun c hc => ?_⟩
            rw [hrow i hi] at hc
            have hx := h7 c (by omega)
            rw [add_plain] at hx
            rw [hx, List.getD_eq_getElem?_getD, List.getD_eq_getElem?_getD, List.getElem?_take, if_pos hc]
    · obtain ⟨k, hk, rfl⟩ := List.mem_map.1 h
      have hk' : k < len := by simpa using hk
      obtain ⟨_, h1, h2, h3, h4, _⟩ := hr k (by omega)
      exact ⟨by rw [hrow k hk']; omega, fun z hz => fits_of (h4 z (List.mem_of_mem_take hz))⟩

/-- A struct of a list of integers and an integer. -/
theorem plane {t u i b : TypeId} {f0 f1 : Field} {base : Nat} {v : Value} {d : DataW H} {ps : List MemPlace} (hs : P.underlying t = some (.struct #[f0, f1])) (hone : oneCellFields P #[f0, f1] = true) (hC : P.cellsOf t = 2)
    (h0 : f0.type = u) (h1 : f1.type = b) (hu : P.underlying u = some (.slice i)) (hi : P.underlying i = some (.int .i64)) (ci : P.cellsOf i = 1) (hb : P.underlying b = some (.int .i64))
    (hv : Value.okWide P W .any base t v) (h : DataW.Trod enc P W 0 (fun _ => true) true t v d ps) :
    ∃ (a : Option Addr) (zs : List Int) (cap : Nat) (z : Int), v = .agg #[.slice a zs.length cap, .int .i64 z] ∧ ints.Reads .i64 W a zs ∧ (∀ z ∈ zs, Fits z) ∧ zs.length ≤ maxLen ∧ zs.length ≤ cap ∧ Fits z := by
  subst h0 h1
  obtain ⟨v0, v1, y0, y1, n, rfl, _, _, g0, g1⟩ := Go.Joins.open_agg2 hs hone hC hv h
  obtain ⟨a, zs, cap, rfl, r1, r2, r3, r4⟩ := intsC hu hi ci g0
  obtain ⟨z, hz, hw⟩ := intC hb g1
  subst hz
  exact ⟨a, zs, cap, z, rfl, r1, r2, r3, r4, hw⟩

/-- A struct of a list of lists of integers and a list of integers. -/
theorem sample {t g q u i : TypeId} {f0 f1 : Field} {base : Nat} {v : Value} {d : DataW H} {ps : List MemPlace} (hs : P.underlying t = some (.struct #[f0, f1])) (hone : oneCellFields P #[f0, f1] = true) (hC : P.cellsOf t = 2)
    (h0 : f0.type = g) (h1 : f1.type = u) (hg : P.underlying g = some (.slice q)) (hq : P.underlying q = some (.slice i)) (cq : P.cellsOf q = 1) (hu : P.underlying u = some (.slice i)) (hi : P.underlying i = some (.int .i64)) (ci : P.cellsOf i = 1)
    (hv : Value.okWide P W .any base t v) (h : DataW.Trod enc P W 0 (fun _ => true) true t v d ps) :
    ∃ (a : Option Addr) (rows : List (List Int)) (cap : Nat) (a' : Option Addr) (zs : List Int) (cap' : Nat), v = .agg #[.slice a rows.length cap, .slice a' zs.length cap'] ∧
      Reads W a rows ∧ (∀ r ∈ rows, r.length ≤ maxLen ∧ ∀ z ∈ r, Fits z) ∧ rows.length ≤ maxLen ∧ rows.length ≤ cap ∧ ints.Reads .i64 W a' zs ∧ (∀ z ∈ zs, Fits z) ∧ zs.length ≤ maxLen ∧ zs.length ≤ cap' := by
  subst h0 h1
  obtain ⟨v0, v1, y0, y1, n, rfl, _, _, g0, g1⟩ := Go.Joins.open_agg2 hs hone hC hv h
  obtain ⟨a, rows, cap, rfl, r1, r2, r3, r4⟩ := gridC hg hq hi cq ci g0
  obtain ⟨a', zs, cap', rfl, s1, s2, s3, s4⟩ := intsC hu hi ci g1
  exact ⟨a, rows, cap, a', zs, cap', rfl, r1, r2, r3, r4, s1, s2, s3, s4⟩
end
end Go.Proofs.Ytoephhhofkmgjab.grid

namespace Go.Proofs.Ytoephhhofkmgjab.own
open Go.RowKit
set_option linter.unusedVariables false

/-- Old cells and old marks read as they did: the two rules that a walk uses. -/
theorem bcell {W w1 : World} (hb : Below W.heap.size W w1) : (∀ b o, b < W.heap.size → w1.cell? ⟨b, o, none⟩ = W.cell? ⟨b, o, none⟩) ∧ (∀ b o, b < W.heap.size → w1.frozen? ⟨b, o, none⟩ = W.frozen? ⟨b, o, none⟩) :=
  ⟨fun b o h => hb.cell (p := ⟨b, o, none⟩) h, fun b o h => hb.frozen (p := ⟨b, o, none⟩) h⟩

/-- From lo on and below hi a world may have turned; all else reads as it did. -/
structure Only (lo hi : Nat) (w w' : World) : Prop where
  os : w'.os = w.os
  tape : w'.tape = w.tape
  output : w'.output = w.output
  size : w.heap.size ≤ w'.heap.size
  block : ∀ k, k < w.heap.size → (k < lo ∨ hi ≤ k) → w'.heap[k]? = w.heap[k]?

theorem Only.refl (lo hi : Nat) (w : World) : Only lo hi w w := ⟨rfl, rfl, rfl, Nat.le_refl _, fun _ _ _ => rfl⟩
theorem Only.trans {lo hi : Nat} {a b c : World} (h : Only lo hi a b) (k : Only lo hi b c) : Only lo hi a c :=
  ⟨k.os.trans h.os, k.tape.trans h.tape, k.output.trans h.output, Nat.le_trans h.size k.size, fun i hi ho => (k.block i (Nat.lt_of_lt_of_le hi h.size) ho).trans (h.block i hi ho)⟩
theorem Only.mono {lo hi lo' hi' : Nat} {a b : World} (h : Only lo hi a b) (h1 : lo' ≤ lo) (h2 : hi ≤ hi') : Only lo' hi' a b :=
  ⟨h.os, h.tape, h.output, h.size, fun k hk ho => h.block k hk (by omega)⟩
theorem Only.of_below {lo hi : Nat} {a b : World} (h : Below a.heap.size a b) : Only lo hi a b :=
  ⟨h.os, h.tape, h.output, h.size, fun k hk _ => h.block k hk⟩
theorem Only.of_grown {lo hi : Nat} {a b : World} {row : Option Nat} (h : a.grownBy b row) (hr : ∀ g, row = some g → lo ≤ g ∧ g < hi) : Only lo hi a b :=
  ⟨h.os, h.tape, h.output, h.size, fun k hk ho => h.block k hk (fun e => by have := hr k e.symm; omega)⟩
theorem Only.below {lo hi : Nat} {a b : World} (h : Only lo hi a b) (hl : lo ≤ a.heap.size) : Below lo a b :=
  ⟨h.os, h.tape, h.output, h.size, fun k hk => h.block k (by omega) (.inl hk)⟩
theorem Only.drewN {lo hi : Nat} {a b : World} (h : Only lo hi a b) (n : Nat) : Only lo hi a (b.drewN n) := ⟨h.os, h.tape, h.output, h.size, h.block⟩

/-- Blocks outside of S read as they did. -/
structure Stir (S : Nat → Prop) (w w' : World) : Prop where
  os : w'.os = w.os
  tape : w'.tape = w.tape
  output : w'.output = w.output
  size : w.heap.size ≤ w'.heap.size
  block : ∀ k, k < w.heap.size → ¬ S k → w'.heap[k]? = w.heap[k]?

theorem Stir.refl (S : Nat → Prop) (w : World) : Stir S w w := ⟨rfl, rfl, rfl, Nat.le_refl _, fun _ _ _ => rfl⟩
theorem Stir.trans {S : Nat → Prop} {a b c : World} (h : Stir S a b) (k : Stir S b c) : Stir S a c :=
  ⟨k.os.trans h.os, k.tape.trans h.tape, k.output.trans h.output, Nat.le_trans h.size k.size, fun i hi ho => (k.block i (Nat.lt_of_lt_of_le hi h.size) ho).trans (h.block i hi ho)⟩
theorem Stir.mono {S S' : Nat → Prop} {a b : World} (h : Stir S a b) (hS : ∀ k, S k → S' k) : Stir S' a b :=
  ⟨h.os, h.tape, h.output, h.size, fun k hk ho => h.block k hk fun e => ho (hS k e)⟩
theorem Stir.of_grown {S : Nat → Prop} {a b : World} {row : Option Nat} (h : a.grownBy b row) (hr : ∀ g, row = some g → S g) : Stir S a b :=
  ⟨h.os, h.tape, h.output, h.size, fun k hk ho => h.block k hk fun e => ho (hr k e.symm)⟩
theorem Stir.of_below {S : Nat → Prop} {a b : World} (h : Below a.heap.size a b) : Stir S a b :=
  ⟨h.os, h.tape, h.output, h.size, fun k hk _ => h.block k hk⟩
theorem Stir.only {S : Nat → Prop} {lo hi : Nat} {a b : World} (h : Stir S a b) (hS : ∀ k, S k → lo ≤ k ∧ k < hi) : Only lo hi a b :=
  ⟨h.os, h.tape, h.output, h.size, fun k hk ho => h.block k hk fun e => by have := hS k e; omega⟩

/-- A slice of integers that lies in its own block, from lo on and below hi. -/
def OwnI (lo hi : Nat) (w : World) (v : Value) (zs : List Int) : Prop :=
  w.ownsRow lo 3 1 v zs.length (zs.map (Value.int .i64)) ∧ ∀ g, v.ownBlock = some g → g < hi

theorem OwnI.lt {lo hi : Nat} {w : World} {v : Value} {zs : List Int} (h : OwnI lo hi w v zs) {g : Nat} (hg : v.ownBlock = some g) : lo ≤ g ∧ g < hi ∧ g < w.heap.size :=
  ⟨(h.1.lt g hg).1, h.2 g hg, (h.1.lt g hg).2⟩

theorem OwnI.of {lo : Nat} {w : World} {v : Value} {zs : List Int} (h : w.ownsRow lo 3 1 v zs.length (zs.map (Value.int .i64))) : OwnI lo w.heap.size w v zs :=
  ⟨h, fun g hg => (h.lt g hg).2⟩

theorem OwnI.nil (lo hi : Nat) (w : World) : OwnI lo hi w (.slice none 0 0) [] := ⟨World.ownsRow_nil w lo _ 1, fun g hg => by simp [Value.ownBlock] at hg⟩

theorem ownsRow_base {w : World} {e : TypeId} {size lo lo' : Nat} {v : Value} {n : Nat} {xs : List Value} (h : w.ownsRow lo e size v n xs) (hl : ∀ g, v.ownBlock = some g → lo' ≤ g) : w.ownsRow lo' e size v n xs := by
  refine ⟨h.1, ?_⟩
  rcases h.2 with h2 | ⟨g, cap, cur, rfl, hb, r⟩
  · exact .inl h2
  · exact .inr ⟨g, cap, cur, rfl, hl g rfl, r⟩

theorem OwnI.mono {lo hi lo' hi' : Nat} {w : World} {v : Value} {zs : List Int} (h : OwnI lo hi w v zs) (h1 : lo' ≤ lo) (h2 : hi ≤ hi') : OwnI lo' hi' w v zs :=
  ⟨ownsRow_base h.1 (fun g hg => Nat.le_trans h1 (h.lt hg).1), fun g hg => Nat.lt_of_lt_of_le (h.2 g hg) h2⟩

/-- Narrow to the one block. -/
theorem OwnI.narrow {lo hi lo' hi' : Nat} {w : World} {v : Value} {zs : List Int} (h : OwnI lo hi w v zs) (hl : ∀ g, v.ownBlock = some g → lo' ≤ g ∧ g < hi') : OwnI lo' hi' w v zs :=
  ⟨ownsRow_base h.1 (fun g hg => (hl g hg).1), fun g hg => (hl g hg).2⟩

theorem ownsRow_block {w w' : World} {e : TypeId} {size lo : Nat} {v : Value} {n : Nat} {xs : List Value} (h : w.ownsRow lo e size v n xs) (hb : ∀ g, v.ownBlock = some g → w'.heap[g]? = w.heap[g]?) : w'.ownsRow lo e size v n xs := by
  refine ⟨h.1, ?_⟩
  rcases h.2 with h2 | ⟨g, cap, cur, rfl, hl, hh, r⟩
  · exact .inl h2
  · exact .inr ⟨g, cap, cur, rfl, hl, (hb g rfl).trans hh, r⟩

theorem OwnI.block {lo hi : Nat} {w w' : World} {v : Value} {zs : List Int} (h : OwnI lo hi w v zs) (hb : ∀ g, v.ownBlock = some g → w'.heap[g]? = w.heap[g]?) : OwnI lo hi w' v zs := ⟨ownsRow_block h.1 hb, h.2⟩

theorem OwnI.only {lo hi lo' hi' : Nat} {w w' : World} {v : Value} {zs : List Int} (h : OwnI lo hi w v zs) (ho : Only lo' hi' w w') (hd : hi ≤ lo' ∨ hi' ≤ lo) : OwnI lo hi w' v zs :=
  h.block fun g hg => by have := h.lt hg; exact ho.block g this.2.2 (by omega)

theorem OwnI.below {lo hi : Nat} {w w' : World} {v : Value} {zs : List Int} (h : OwnI lo hi w v zs) (hb : Below w.heap.size w w') : OwnI lo hi w' v zs :=
  h.block fun g hg => hb.block g (h.lt hg).2.2

theorem OwnI.set {lo hi : Nat} {w : World} {v : Value} {zs : List Int} (h : OwnI lo hi w v zs) {a : Addr} (ha : a.block < lo) (u : Value) : OwnI lo hi (w.setCell a u) v zs :=
  h.block fun g hg => Below.heap_setCell _ _ _ _ (by have := h.lt hg; omega)
theorem size_set (w : World) (a : Addr) (u : Value) : (w.setCell a u).heap.size = w.heap.size := by simp [World.setCell]

/-- What it is as a value. -/
theorem OwnI.slice {lo hi : Nat} {w : World} {v : Value} {zs : List Int} (h : OwnI lo hi w v zs) : ∃ a c, v = .slice a zs.length c ∧ ints.Reads .i64 w a zs ∧ zs.length ≤ c ∧ zs.length ≤ maxLen := by
  rcases h.1.2 with ⟨rfl, h0⟩ | ⟨g, cap, cur, rfl, hl, hh, hn, hm, hs, ht⟩
  · have : zs = [] := List.length_eq_zero_iff.1 h0
    subst this
    exact ⟨none, 0, rfl, .inl rfl, Nat.le_refl _, by simp⟩
  · refine ⟨some ⟨g, 0, none⟩, cap, rfl, .inr ⟨g, 0, rfl, (Array.getElem?_eq_some_iff.1 hh).1, fun i hi => ?_⟩, hn, by omega⟩
    have hx := h.1.cells (g := g) rfl i (.int .i64 (zs.getD i 0)) (by simp [List.getElem?_eq_getElem hi])
    rw [Go.WideShapes.add_plain] at hx
    exact hx
end Go.Proofs.Ytoephhhofkmgjab.own
