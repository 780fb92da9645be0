/- A growing list of planes beside a list of numbers that is turned in place. -/
import Derived.Test.YthohnnobahcdpaaBoostP
import Derived.Test.YthohnnobahcdpaaStmO
namespace Go.Proofs.Ythohnnobahcdpaa.boostl
open Go.RowKit own pp nums range samplesv bndp stmp stmo margin bestp hefts wm both sidesof even boostp
set_option linter.unusedVariables false
set_option linter.unusedSimpArgs false

theorem Only.set {lo hi : Nat} {a b : World} (h : Only lo hi a b) {p : Addr} (h1 : lo ≤ p.block) (h2 : p.block < hi) (u : Value) : Only lo hi a (b.setCell p u) := by
  have k := (Below.refl lo b).setCell (p := p) h1 u
  exact ⟨k.os.trans h.os, k.tape.trans h.tape, k.output.trans h.output, Nat.le_trans h.size k.size, fun g hg ho => (Below.heap_setCell _ _ _ _ (by omega)).trans (h.block g hg ho)⟩
theorem Only.drew' {lo hi : Nat} {a b : World} (h : Only lo hi a b) : Only lo hi a b.drew := ⟨h.os, h.tape, h.output, h.size, h.block⟩
theorem OwnK.mono' {lo hi lo' hi' : Nat} {w : World} {v : Value} {ps : List (List Int × Int)} {cs : List Value} (h : OwnK lo hi w v ps cs) (h1 : lo' ≤ lo) (h2 : hi ≤ hi') : OwnK lo' hi' w v ps cs :=
  ⟨ownsRow_base h.1 (fun g hg => by have := h.1.lt g hg; omega), fun g hg => by have := h.2.1 g hg; omega, h.2.2.mono h1 h2⟩
/-- The list of planes stays clear of a block. -/
def Av (gh : Nat) (v : Value) (cs : List Value) (n : Nat) : Prop := (∀ g, v.ownBlock = some g → g ≠ gh) ∧ ∀ i, i < n → ∀ g, (cs.getD i undef).ownBlock = some g → g ≠ gh
theorem Av.push {gh : Nat} {v v' c : Value} {cs : List Value} {n : Nat} (h : Av gh v cs n) (hl : cs.length = n) (hv : ∀ g, v'.ownBlock = some g → g ≠ gh) (hc : ∀ g, c.ownBlock = some g → g ≠ gh) : Av gh v' (cs ++ [c]) (n + 1) := by
  refine ⟨hv, fun i hi g hg => ?_⟩
  by_cases h1 : i < n
  · rw [List.getD_eq_getElem?_getD, List.getElem?_append_left (by omega), ← List.getD_eq_getElem?_getD] at hg
    exact h.2 i h1 g hg
  · obtain rfl : i = cs.length := by omega
    rw [List.getD_eq_getElem?_getD, List.getElem?_append_right (Nat.le_refl _)] at hg
    exact hc g (by simpa using hg)
theorem OwnK.shift {gh lo hi hi' : Nat} {w w' : World} {v : Value} {ps : List (List Int × Int)} {cs : List Value} (h : OwnK lo hi w v ps cs) (ho : Only gh (gh + 1) w w') (ha : Av gh v cs ps.length) (h2 : hi ≤ hi') : OwnK lo hi' w' v ps cs := by
  refine OwnK.mono' (hi := hi) ⟨ownsRow_block h.1 (fun g hg => ho.block g (h.1.lt g hg).2 (by have := ha.1 g hg; omega)), h.2.1, h.2.2.keep fun g _ _ hgs hx => ?_⟩ (Nat.le_refl _) h2
  obtain ⟨i, hi, he⟩ := hx
  exact ho.block g hgs (by have := ha.2 i (by simpa using hi) g he; omega)
/-- One plane more; its weights lie behind the list. -/
theorem OwnK.push2 {B M : Nat} {W1 W2 : World} {v v' c : Value} {ps : List (List Int × Int)} {cs : List Value} {ws : List Int} {b : Int} (h : OwnK B M W1 v ps cs) (hBM : B ≤ M) (hM : M ≤ W1.heap.size)
    (hc : OwnI M W1.heap.size W1 c ws) (hrow : W2.ownsRow B 27 2 v' (ps.length + 1) (flatJ cs ps ++ [c, .int .i64 b])) (hg : W1.grownBy W2 v.ownBlock) : OwnK B W2.heap.size W2 v' (ps ++ [(ws, b)]) (cs ++ [c]) := by
  have hvl := fun g (e : v.ownBlock = some g) => h.2.1 g e
  have hr2 : RowsOf B M W2 cs (ps.map Prod.fst) := h.2.2.keep fun g _ _ hgs ⟨i, hi, he⟩ => hg.block g hgs fun e => by
    have hri := h.2.2.2.1 i hi
    exact ownsRow_ne hri.1 h.1 (by decide) he e.symm
  have hc2 : OwnI M W2.heap.size W2 c ws := (hc.block fun g he => hg.block g (hc.lt he).2.2 fun e => by
    have h1 := hvl g e.symm
    have h2 := hc.lt he
    omega).mono (Nat.le_refl _) hg.size
  exact OwnK.snoc hr2 hrow (fun g e => (hrow.lt g e).2) hc2 hBM (Nat.le_trans hM hg.size)
/-- A list of planes and a list of numbers, clear of each other. -/
def TwoOf (lo hi : Nat) (w : World) (v u : Value) (ps : List (List Int × Int)) (zs : List Int) : Prop := ∃ gh cs, u.ownBlock = some gh ∧ OwnI lo hi w u zs ∧ OwnK lo hi w v ps cs ∧ Av gh v cs ps.length
def MadeJI (ps : List (List Int × Int)) (zs : List Int) (w : World) (e : Ending) (w' : World) : Prop := ∃ v u, e = .returned (.tuple #[v, u]) ∧ TwoOf w.heap.size w'.heap.size w' v u ps zs ∧ Below w.heap.size w w'
def RetJIB (ps : List (List Int × Int)) (zs : List Int) (ok : Bool) (w : World) (e : Ending) (w' : World) : Prop := ∃ v u, e = .returned (.tuple #[v, u, .bool ok]) ∧ TwoOf w.heap.size w'.heap.size w' v u ps zs ∧ Below w.heap.size w w'
theorem ms_at {rows : List (List Int)} {zs hs : List Int} {ms : List Int} (hm : msOf rows zs hs = ms) (j : Nat) (h : j < ms.length) : ∃ p : Nat, ms.getD j 0 = (p : Int) ∧ p < rows.length := by
  subst hm
  obtain ⟨h1, h2⟩ := mis_up rows zs (bestX rows zs hs).1 (bestX rows zs hs).2 rows.length
  have h3 := h1.1 j h
  have h4 := h2 j h
  refine ⟨((msOf rows zs hs).getD j 0).toNat, ?_, ?_⟩ <;> unfold msOf at * <;> omega
theorem ms_bd {rows : List (List Int)} {zs : List Int} (k : Nat) (hk : k ≤ 8) {ms : List Int} (hm : msOf rows zs (hfTo rows zs k) = ms) (j : Nat) (h : j ≤ ms.length) (i : Nat) : 0 ≤ (dblTo (hfTo rows zs k) ms j).getD i 0 ∧ (dblTo (hfTo rows zs k) ms j).getD i 0 ≤ 512 := by
  subst hm
  have h1 := (dblTo_bd (hfTo_bd rows zs k) (mis_up rows zs (bestX rows zs (hfTo rows zs k)).1 (bestX rows zs (hfTo rows zs k)).2 rows.length).1 j h).1 i
  have h2 : (2 : Int) ^ k ≤ 2 ^ 8 := by
    exact_mod_cast Nat.pow_le_pow_right (by omega) hk
  have h3 : (2 : Int) ^ 8 = 256 := by decide
  unfold msOf
  omega
/-- A number is doubled in its place. -/
theorem dbl_own {w : World} {C g cap n : Nat} {hs : List Int} (hl : hs.length = n) (ho : w.ownsRow C 3 1 (.slice (some ⟨g, 0, none⟩) n cap) n (hs.map (Value.int .i64))) (p : Nat) (hp : p < n) :
    w.cell? ⟨g, p, none⟩ = some (.int .i64 (hs.getD p 0)) ∧ (w.setCell ⟨g, p, none⟩ (.int .i64 (2 * hs.getD p 0))).ownsRow C 3 1 (.slice (some ⟨g, 0, none⟩) n cap) n ((dbl hs p).map (Value.int .i64)) := by
  refine ⟨?_, ?_⟩
  · rw [ho.cellAt p (by simp; omega), List.getElem?_map, List.getD_eq_getElem?_getD, List.getElem?_eq_getElem (by omega)]
    rfl
  · have := (ho.stored p (.int .i64 (2 * hs.getD p 0))).1
    unfold dbl
    rw [List.map_set]
    exact this
end Go.Proofs.Ythohnnobahcdpaa.boostl
