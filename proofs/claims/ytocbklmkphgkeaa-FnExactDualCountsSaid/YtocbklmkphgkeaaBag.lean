/- Rows in memory of their own that lie apart from each other: plain lemmas, no condition. -/
import Derived.Test.YtocbklmkphgkeaaOutBox
namespace Go.Proofs.Ytocbklmkphgkeaa.own
open Go.RowKit
set_option linter.unusedVariables false

structure Item where
  t : TypeId
  sz : Nat
  v : Value
  n : Nat
  cs : List Value
def Apart (x y : Value) : Prop := ∀ g, x.ownBlock = some g → y.ownBlock ≠ some g
/-- Rows made since lo, none in the block B, no two in one block. -/
def Bag (lo B : Nat) (w : World) (L : List Item) : Prop :=
  (∀ x ∈ L, w.ownsRow lo x.t x.sz x.v x.n x.cs ∧ ∀ g, x.v.ownBlock = some g → g ≠ B) ∧ L.Pairwise fun x y => Apart x.v y.v
section
variable {lo B : Nat} {w w' W W3 : World} {L L1 L2 : List Item} {x y : Item}
theorem Bag.keep (h : Bag lo B w L) (hb : ∀ x ∈ L, ∀ g, x.v.ownBlock = some g → w'.heap[g]? = w.heap[g]?) : Bag lo B w' L :=
  ⟨fun x hx => ⟨ownsRow_block (h.1 x hx).1 (hb x hx), (h.1 x hx).2⟩, h.2⟩
theorem Bag.below (h : Bag lo B w L) (hb : Below w.heap.size w W) : Bag lo B W L := h.keep fun x hx g hg => hb.block g ((h.1 x hx).1.lt g hg).2
theorem Bag.set (h : Bag lo B w L) (o : Nat) (u : Value) : Bag lo B (w.setCell ⟨B, o, none⟩ u) L := h.keep fun x hx g hg => Below.heap_setCell _ _ _ _ ((h.1 x hx).2 g hg)
theorem Bag.add (h : Bag lo B w L) (hy : w.ownsRow lo y.t y.sz y.v y.n y.cs) (hB : ∀ g, y.v.ownBlock = some g → g ≠ B) (ha : ∀ x ∈ L, Apart x.v y.v) : Bag lo B w (L ++ [y]) := by
  refine ⟨fun z hz => ?_, List.pairwise_append.2 ⟨h.2, by simp, fun a ha' b hb => ?_⟩⟩
  · rcases List.mem_append.1 hz with hz | hz
    · exact h.1 z hz
    · obtain rfl := List.mem_singleton.1 hz
      exact ⟨hy, hB⟩
  · obtain rfl := List.mem_singleton.1 hb
    exact ha a ha'
theorem Bag.grow {O : Obj} (h : Bag lo B W (L1 ++ x :: L2)) (hg : (W.alloc O).grownBy W3 x.v.ownBlock) (hy : W3.ownsRow lo y.t y.sz y.v y.n y.cs)
    (hb : ∀ g, y.v.ownBlock = some g → x.v.ownBlock = some g ∨ W.heap.size ≤ g) (hB : B < W.heap.size) : Bag lo B W3 (L1 ++ y :: L2) := by
  obtain ⟨h1, h2⟩ := h
  have hx := h1 x (by simp)
  have hp := List.pairwise_append.1 h2
  have hc := List.pairwise_cons.1 hp.2.1
  have far1 : ∀ z ∈ L1, Apart z.v x.v := fun z hz => hp.2.2 z hz x (by simp)
  have far2 : ∀ z ∈ L2, Apart z.v x.v := fun z hz g e1 e2 => hc.1 z hz g e2 e1
  have kp : ∀ z, z ∈ L1 ∨ z ∈ L2 → W3.ownsRow lo z.t z.sz z.v z.n z.cs ∧ (∀ g, z.v.ownBlock = some g → g ≠ B) ∧ Apart z.v y.v := fun z hz => by
    have hm : z ∈ L1 ++ x :: L2 := by rcases hz with hz | hz <;> simp [hz]
    have far : Apart z.v x.v := by rcases hz with hz | hz; exact far1 z hz; exact far2 z hz
    have hz1 := (h1 z hm).1
    refine ⟨ownsRow_block hz1 fun g e => grown_block hg g (hz1.lt g e).2 (far g e), (h1 z hm).2, fun g e e2 => ?_⟩
    rcases hb g e2 with e3 | e3
    · exact far g e e3
    · have := (hz1.lt g e).2
      omega
  refine ⟨fun z hz => ?_, List.pairwise_append.2 ⟨hp.1, List.pairwise_cons.2 ⟨fun z hz g e1 e2 => (kp z (.inr hz)).2.2 g e2 e1, hc.2⟩, fun a ha b hb' => ?_⟩⟩
  · rcases List.mem_append.1 hz with hz | hz
    · exact ⟨(kp z (.inl hz)).1, (kp z (.inl hz)).2.1⟩
    · rcases List.mem_cons.1 hz with rfl | hz
      · refine ⟨hy, fun g e e2 => ?_⟩
        rcases hb g e with e3 | e3
        · exact hx.2 g e3 e2
        · omega
      · exact ⟨(kp z (.inr hz)).1, (kp z (.inr hz)).2.1⟩
  · rcases List.mem_cons.1 hb' with rfl | hb'
    · exact (kp a (.inl ha)).2.2
    · exact hp.2.2 a ha b (by simp [hb'])
end
def itI (v : Value) (zs : List Int) : Item := ⟨3, 1, v, zs.length, zs.map (Value.int .i64)⟩
def cellsP (vs : List Value) (PL : List (List Int × Int)) : List Value := (vs.zip PL).flatMap fun x => [x.1, .int .i64 x.2.2]
def itP (v : Value) (vs : List Value) (PL : List (List Int × Int)) : Item := ⟨46, 2, v, PL.length, cellsP vs PL⟩
def itW (vs : List Value) (PL : List (List Int × Int)) : List Item := (vs.zip PL).map fun x => itI x.1 x.2.1
theorem cellsP_snoc {vs : List Value} {PL : List (List Int × Int)} (h : vs.length = PL.length) (v : Value) (s : List Int × Int) : cellsP (vs ++ [v]) (PL ++ [s]) = cellsP vs PL ++ [v, .int .i64 s.2] := by
  unfold cellsP
  rw [List.zip_append h, List.flatMap_append]
  simp
theorem cellsP_length {vs : List Value} {PL : List (List Int × Int)} (h : vs.length = PL.length) : (cellsP vs PL).length = 2 * PL.length := by
  have key : ∀ l : List (Value × (List Int × Int)), (l.flatMap fun x => [x.1, Value.int .i64 x.2.2]).length = 2 * l.length := fun l => by
    induction l with
    | nil => rfl
    | cons a l ih => rw [List.flatMap_cons, List.length_append, ih]; simp; omega
  unfold cellsP
  rw [key, List.length_zip, h, Nat.min_self]
theorem itW_snoc {vs : List Value} {PL : List (List Int × Int)} (h : vs.length = PL.length) (v : Value) (s : List Int × Int) : itW (vs ++ [v]) (PL ++ [s]) = itW vs PL ++ [itI v s.1] := by
  unfold itW
  rw [List.zip_append h, List.map_append]
  simp
/-- The memory of a run: its planes (vs their weights), the places of its turns, the mistakes of its rounds. -/
def RM (lo B : Nat) (w : World) (v1 v2 v3 : Value) (vs : List Value) (PL : List (List Int × Int)) (TR MI : List Int) : Prop :=
  vs.length = PL.length ∧ Bag lo B w (itP v1 vs PL :: itI v2 TR :: itI v3 MI :: itW vs PL)
section
variable {lo B : Nat} {w w' W W3 : World} {v1 v2 v3 v : Value} {vs : List Value} {PL : List (List Int × Int)} {TR MI : List Int} {s : List Int × Int} {O : Obj} {g' cap : Nat}
theorem RM.below (h : RM lo B w v1 v2 v3 vs PL TR MI) (hb : Below w.heap.size w W) : RM lo B W v1 v2 v3 vs PL TR MI := ⟨h.1, h.2.below hb⟩
theorem RM.set (h : RM lo B w v1 v2 v3 vs PL TR MI) (o : Nat) (u : Value) : RM lo B (w.setCell ⟨B, o, none⟩ u) v1 v2 v3 vs PL TR MI := ⟨h.1, h.2.set o u⟩
theorem RM.own1 (h : RM lo B w v1 v2 v3 vs PL TR MI) : w.ownsRow lo 46 2 v1 PL.length (cellsP vs PL) ∧ ∀ g, v1.ownBlock = some g → g ≠ B := h.2.1 (itP v1 vs PL) (by simp)
theorem RM.own2 (h : RM lo B w v1 v2 v3 vs PL TR MI) : w.ownsRow lo 3 1 v2 TR.length (TR.map (Value.int .i64)) ∧ ∀ g, v2.ownBlock = some g → g ≠ B := h.2.1 (itI v2 TR) (by simp)
theorem RM.own3 (h : RM lo B w v1 v2 v3 vs PL TR MI) : w.ownsRow lo 3 1 v3 MI.length (MI.map (Value.int .i64)) ∧ ∀ g, v3.ownBlock = some g → g ≠ B := h.2.1 (itI v3 MI) (by simp)
theorem RM.trace (h : RM lo B W v1 v2 v3 vs PL TR MI) {z : Int} (hg : (W.alloc O).grownBy W3 v2.ownBlock) (hown : W3.ownsRow lo 3 1 (.slice (some ⟨g', 0, none⟩) (TR.length + 1) cap) (TR.length + 1) (TR.map (Value.int .i64) ++ [.int .i64 z]))
    (hat : v2.ownBlock = some g' ∨ g' = W.heap.size + 1) (hB : B < W.heap.size) : RM lo B W3 v1 (.slice (some ⟨g', 0, none⟩) (TR.length + 1) cap) v3 vs PL (TR ++ [z]) MI :=
  ⟨h.1, Bag.grow (L1 := [itP v1 vs PL]) (x := itI v2 TR) (y := itI (.slice (some ⟨g', 0, none⟩) (TR.length + 1) cap) (TR ++ [z])) h.2 hg (by simpa [itI] using hown) (fun g e => by
    obtain rfl : g' = g := by simpa [itI, Value.ownBlock] using e
    rcases hat with ha | ha
    · exact .inl ha
    · exact .inr (by omega)) hB⟩
theorem RM.mist (h : RM lo B W v1 v2 v3 vs PL TR MI) {z : Int} (hg : (W.alloc O).grownBy W3 v3.ownBlock) (hown : W3.ownsRow lo 3 1 (.slice (some ⟨g', 0, none⟩) (MI.length + 1) cap) (MI.length + 1) (MI.map (Value.int .i64) ++ [.int .i64 z]))
    (hat : v3.ownBlock = some g' ∨ g' = W.heap.size + 1) (hB : B < W.heap.size) : RM lo B W3 v1 v2 (.slice (some ⟨g', 0, none⟩) (MI.length + 1) cap) vs PL TR (MI ++ [z]) :=
  ⟨h.1, Bag.grow (L1 := [itP v1 vs PL, itI v2 TR]) (x := itI v3 MI) (y := itI (.slice (some ⟨g', 0, none⟩) (MI.length + 1) cap) (MI ++ [z])) h.2 hg (by simpa [itI] using hown) (fun g e => by
    obtain rfl : g' = g := by simpa [itI, Value.ownBlock] using e
    rcases hat with ha | ha
    · exact .inl ha
    · exact .inr (by omega)) hB⟩
/-- Weights made behind all else, and then the list of planes with one more. -/
theorem RM.plane {hi : Nat} (h : RM lo B W v1 v2 v3 vs PL TR MI) (hv : OwnI hi W.heap.size W v s.1) (hlo : lo ≤ hi) (hBh : B < hi) (hold : ∀ x ∈ itP v1 vs PL :: itI v2 TR :: itI v3 MI :: itW vs PL, ∀ g, x.v.ownBlock = some g → g < hi)
    (hg : (W.alloc O).grownBy W3 v1.ownBlock) (hown : W3.ownsRow lo 46 2 (.slice (some ⟨g', 0, none⟩) (PL.length + 1) cap) (PL.length + 1) (cellsP vs PL ++ [v, .int .i64 s.2]))
    (hat : v1.ownBlock = some g' ∨ g' = W.heap.size + 1) (hB : B < W.heap.size) : RM lo B W3 (.slice (some ⟨g', 0, none⟩) (PL.length + 1) cap) v2 v3 (vs ++ [v]) (PL ++ [s]) TR MI := by
  have h2 := Bag.add (y := itI v s.1) h.2 (ownsRow_base hv.1 fun g e => by have := (hv.lt e).1; omega) (fun g e => by have := (hv.lt e).1; omega) (fun x hx g e e2 => by have := hold x hx g e; have := (hv.lt e2).1; omega)
  refine ⟨by simp [h.1], ?_⟩
  rw [itW_snoc h.1]
  exact Bag.grow (L1 := []) (x := itP v1 vs PL) (y := itP (.slice (some ⟨g', 0, none⟩) (PL.length + 1) cap) (vs ++ [v]) (PL ++ [s])) h2 hg (by simpa [itP, cellsP_snoc h.1] using hown) (fun g e => by
    obtain rfl : g' = g := by simpa [itP, Value.ownBlock] using e
    rcases hat with ha | ha
    · exact .inl ha
    · exact .inr (by omega)) hB
theorem RM.old (h : RM lo B w v1 v2 v3 vs PL TR MI) : ∀ x ∈ itP v1 vs PL :: itI v2 TR :: itI v3 MI :: itW vs PL, ∀ g, x.v.ownBlock = some g → g < w.heap.size := fun x hx g e => ((h.2.1 x hx).1.lt g e).2
/-- The last plane. -/
theorem RM.last (h : RM lo B w v1 v2 v3 (vs ++ [v]) (PL ++ [s]) TR MI) (hl : vs.length = PL.length) : ∃ g1 cap, v1 = .slice (some ⟨g1, 0, none⟩) (PL.length + 1) cap ∧ g1 ≠ B ∧ lo ≤ g1 ∧ g1 < w.heap.size ∧ w.cell? ⟨g1, 2 * PL.length, none⟩ = some v ∧ w.cell? ⟨g1, 2 * PL.length + 1, none⟩ = some (.int .i64 s.2) ∧ OwnI lo w.heap.size w v s.1 := by
  obtain ⟨ho, hB⟩ := h.own1
  obtain ⟨g1, cap, e⟩ : ∃ g1 cap, v1 = .slice (some ⟨g1, 0, none⟩) (PL ++ [s]).length cap := by
    rcases ho.2 with ⟨_, e⟩ | ⟨g, cap, cur, e, _⟩
    · simp at e
    · exact ⟨g, cap, e⟩
  have hl1 := ho.lt g1 (by rw [e]; rfl)
  have hb1 := hB g1 (by rw [e]; rfl)
  rw [List.length_append, List.length_singleton] at e
  subst e
  rw [cellsP_snoc hl, List.length_append, List.length_singleton] at ho
  have hcl := cellsP_length hl
  have c0 := ho.cellAt (2 * PL.length) (by omega)
  have c1 := ho.cellAt (2 * PL.length + 1) (by omega)
  rw [List.getElem?_append_right (by omega)] at c0 c1
  rw [hcl] at c0 c1
  refine ⟨g1, cap, rfl, hb1, hl1.1, hl1.2, by simpa using c0, by simpa using c1, ?_⟩
  have hm : itI v s.1 ∈ itP (.slice (some ⟨g1, 0, none⟩) (PL.length + 1) cap) (vs ++ [v]) (PL ++ [s]) :: itI v2 TR :: itI v3 MI :: itW (vs ++ [v]) (PL ++ [s]) := by
    rw [itW_snoc hl]
    simp
  exact OwnI.of (h.2.1 _ hm).1
end
end Go.Proofs.Ytocbklmkphgkeaa.own
