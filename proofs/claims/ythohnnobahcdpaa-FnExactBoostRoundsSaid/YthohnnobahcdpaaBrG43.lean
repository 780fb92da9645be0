/- Several texts in one. -/
import Derived.Test.YthohnnobahcdpaaBrG40
import Derived.Test.YthohnnobahcdpaaBrG33
import Derived.Test.YthohnnobahcdpaaMisOf
import Derived.Test.YthohnnobahcdpaaBrG37
namespace Go.Proofs.Ythohnnobahcdpaa.boostp
open Go.RowKit own pp nums range samplesv bndp stmp margin bestp hefts wm both sidesof mistakes even
set_option linter.unusedVariables false
set_option linter.unusedSimpArgs false

def dbl (hs : List Int) (k : Nat) : List Int := hs.set k (2 * hs.getD k 0)
theorem dbl_length (hs : List Int) (k : Nat) : (dbl hs k).length = hs.length := by simp [dbl]
def dblTo (hs ms : List Int) : Nat → List Int
  | 0 => hs
  | k + 1 => dbl (dblTo hs ms k) (ms.getD k 0).toNat
theorem dblTo_length (hs ms : List Int) (k : Nat) : (dblTo hs ms k).length = hs.length := by
  induction k with
  | zero => rfl
  | succ k ih => unfold dblTo; rw [dbl_length, ih]
theorem dbl_at (hs : List Int) (k i : Nat) : (dbl hs k).getD i 0 = if i = k then (if k < hs.length then 2 * hs.getD k 0 else 0) else hs.getD i 0 := by
  unfold dbl
  rw [List.getD_eq_getElem?_getD, List.getElem?_set]
  by_cases h : k = i
  · subst h
    by_cases hl : k < hs.length
    · simp [hl]
    · simp [hl]
  · rw [if_neg h, if_neg (fun e => h e.symm), List.getD_eq_getElem?_getD]
/-- The places of mistakes ascend: each is doubled once. -/
def upTo (ms : List Int) : Prop := (∀ k, k < ms.length → 0 ≤ ms.getD k 0) ∧ ∀ j k, j < k → k < ms.length → ms.getD j 0 < ms.getD k 0
theorem dblTo_bd {hs ms : List Int} {B : Int} (hB : ∀ i, 0 ≤ hs.getD i 0 ∧ hs.getD i 0 ≤ B) (hm : upTo ms) (k : Nat) (hk : k ≤ ms.length) :
    (∀ i, 0 ≤ (dblTo hs ms k).getD i 0 ∧ (dblTo hs ms k).getD i 0 ≤ 2 * B) ∧ ∀ j, k ≤ j → j < ms.length → (dblTo hs ms k).getD (ms.getD j 0).toNat 0 ≤ B := by
  induction k with
  | zero => exact ⟨fun i => by have := hB i; show 0 ≤ hs.getD i 0 ∧ hs.getD i 0 ≤ 2 * B; omega, fun j _ _ => (hB _).2⟩
  | succ k ih =>
    obtain ⟨h1, h2⟩ := ih (by omega)
    refine ⟨fun i => ?_, fun j hj hl => ?_⟩
    · unfold dblTo
      rw [dbl_at]
      have h3 := h2 k (Nat.le_refl _) (by omega)
      have h4 := h1 (ms.getD k 0).toNat
      have h5 := h1 i
      have h6 := hB 0
      split
      · split
        · omega
        · omega
      · exact h5
    · unfold dblTo
      rw [dbl_at]
      have h3 := hm.2 k j (by omega) hl
      have h4 := hm.1 k (by omega)
      have h5 := hm.1 j hl
      rw [if_neg (by omega)]
      exact h2 j (by omega) hl
theorem mis_up (rows : List (List Int)) (zs ws : List Int) (b : Int) (n : Nat) : upTo (misTo rows zs ws b n) ∧ ∀ k, k < (misTo rows zs ws b n).length → (misTo rows zs ws b n).getD k 0 < n := by
  induction n with
  | zero => exact ⟨⟨fun k h => absurd h (by simp [misTo]), fun j k _ h => absurd h (by simp [misTo])⟩, fun k h => absurd h (by simp [misTo])⟩
  | succ n ih =>
    obtain ⟨⟨h1, h2⟩, h3⟩ := ih
    cases hM : isM rows zs ws b n
    · rw [misTo_miss _ _ _ _ _ hM]
      exact ⟨⟨h1, h2⟩, fun k hk => by have := h3 k hk; omega⟩
    · rw [misTo_hit _ _ _ _ _ hM]
      generalize misTo rows zs ws b n = ms at *
      have ha : ∀ k, k < ms.length → (ms ++ [(n : Int)]).getD k 0 = ms.getD k 0 := fun k hk => by
        rw [List.getD_eq_getElem?_getD, List.getElem?_append_left hk, List.getD_eq_getElem?_getD]
      have hl : (ms ++ [(n : Int)]).getD ms.length 0 = n := by
        rw [List.getD_eq_getElem?_getD, List.getElem?_append_right (Nat.le_refl _)]
        simp
      have hlen : (ms ++ [(n : Int)]).length = ms.length + 1 := by simp
      refine ⟨⟨fun k hk => ?_, fun j k hj hk => ?_⟩, fun k hk => ?_⟩
      · rw [hlen] at hk
        by_cases hk2 : k < ms.length
        · rw [ha k hk2]; exact h1 k hk2
        · obtain rfl : k = ms.length := by omega
          rw [hl]; omega
      · rw [hlen] at hk
        rw [ha j (by omega)]
        by_cases hk2 : k < ms.length
        · rw [ha k hk2]; exact h2 j k hj hk2
        · obtain rfl : k = ms.length := by omega
          rw [hl]; exact h3 j (by omega)
      · rw [hlen] at hk
        by_cases hk2 : k < ms.length
        · rw [ha k hk2]; have := h3 k hk2; omega
        · obtain rfl : k = ms.length := by omega
          rw [hl]; omega
/-- The stumps and the hefts after so many rounds. -/
def msOf (rows : List (List Int)) (zs hs : List Int) : List Int := misTo rows zs (bestX rows zs hs).1 (bestX rows zs hs).2 rows.length
def nextH (rows : List (List Int)) (zs hs : List Int) : List Int := dblTo hs (msOf rows zs hs) (msOf rows zs hs).length
def hfTo (rows : List (List Int)) (zs : List Int) : Nat → List Int
  | 0 => evenL 1 rows.length
  | r + 1 => nextH rows zs (hfTo rows zs r)
def bsTo (rows : List (List Int)) (zs : List Int) : Nat → List (List Int × Int)
  | 0 => []
  | r + 1 => bsTo rows zs r ++ [bestX rows zs (hfTo rows zs r)]
theorem bsTo_length (rows : List (List Int)) (zs : List Int) (r : Nat) : (bsTo rows zs r).length = r := by
  induction r with
  | zero => rfl
  | succ r ih => unfold bsTo; simp [ih]
theorem hfTo_length (rows : List (List Int)) (zs : List Int) (r : Nat) : (hfTo rows zs r).length = rows.length := by
  induction r with
  | zero => exact even_length _ _
  | succ r ih => unfold hfTo nextH; rw [dblTo_length, ih]
theorem hfTo_bd (rows : List (List Int)) (zs : List Int) (r : Nat) : ∀ i, 0 ≤ (hfTo rows zs r).getD i 0 ∧ (hfTo rows zs r).getD i 0 ≤ 2 ^ r := by
  induction r with
  | zero =>
    intro i
    show 0 ≤ (evenL 1 rows.length).getD i 0 ∧ (evenL 1 rows.length).getD i 0 ≤ 2 ^ 0
    unfold evenL
    rw [List.getD_eq_getElem?_getD, List.getElem?_replicate]
    split <;> simp
  | succ r ih =>
    intro i
    have h := (dblTo_bd ih (mis_up rows zs (bestX rows zs (hfTo rows zs r)).1 (bestX rows zs (hfTo rows zs r)).2 rows.length).1 (msOf rows zs (hfTo rows zs r)).length (Nat.le_refl _)).1 i
    rw [Int.pow_succ, Int.mul_comm]
    exact h
theorem hf_hefts (rows : List (List Int)) (zs : List Int) (r : Nat) (h : r ≤ 8) : heftsB rows (hfTo rows zs r) = true := by
  refine (heftsB_iff _ _).2 ⟨?_, hfTo_length _ _ _⟩
  refine List.all_eq_true.2 fun x hx => (inR_iff _ _ _).2 ?_
  obtain ⟨i, hi, rfl⟩ := List.getElem_of_mem hx
  have h0 : (hfTo rows zs r).getD i 0 = (hfTo rows zs r)[i] := by rw [List.getD_eq_getElem?_getD, List.getElem?_eq_getElem hi]; rfl
  rw [← h0]
  have h1 := hfTo_bd rows zs r i
  have h2 : (2 : Int) ^ r ≤ 2 ^ 8 := by
    exact_mod_cast Nat.pow_le_pow_right (by omega) h
  have h3 : (2 : Int) ^ 8 = 256 := by decide
  omega
end Go.Proofs.Ythohnnobahcdpaa.boostp

namespace Go.Proofs.Ythohnnobahcdpaa.boostl
open Go.RowKit own pp nums range samplesv bndp stmp stmo margin bestp hefts wm both sidesof even boostp
set_option linter.unusedVariables false
set_option linter.unusedSimpArgs false

theorem Only.set {lo hi : Nat} {a b : World} (h : Only lo hi a b) {p : Addr} (h1 : lo ≤ p.block) (h2 : p.block < hi) (u : Value) : Only lo hi a (b.setCell p u) := by
  have k := (Below.refl lo b).setCell (p := p) h1 u
  exact ⟨k.os.trans h.os, k.tape.trans h.tape, k.output.trans h.output, Nat.le_trans h.size k.size, fun g hg ho => (Below.heap_setCell _ _ _ _ (by omega)).trans (h.block g hg ho)⟩
theorem Only.drew' {lo hi : Nat} {a b : World} (h : Only lo hi a b) : Only lo hi a b.drew := ⟨h.os, h.tape, h.output, h.size, h.block⟩
theorem OwnK.mono' {lo hi lo' hi' : Nat} {w : World} {v : Value} {ps : List (List Int × Int)} {cs : List Value} (h : OwnK lo hi w v ps cs) (h1 : lo' ≤ lo) (h2 : hi ≤ hi') : OwnK lo' hi' w v ps cs :=
  ⟨ownsRow_base h.1 (fun g hg => by have := h.1.lt g hg; omega), fun g hg => by have := h.2.1 g hg; omega, h.2.2.mono h1 h2⟩
/-- The list of planes stays clear of a block. -/
def Av (gh : Nat) (v : Value) (cs : List Value) (n : Nat) : Prop := (∀ g, v.ownBlock = some g → g ≠ gh) ∧ ∀ i, i < n → ∀ g, (cs.getD i undef).ownBlock = some g → g ≠ gh
theorem Av.push {gh : Nat} {v v' c : Value} {cs : List Value} {n : Nat} (h : Av gh v cs n) (hl : cs.length = n) (hv : ∀ g, v'.ownBlock = some g → g ≠ gh) (hc : ∀ g, c.ownBlock = some g → g ≠ gh) : Av gh v' (cs ++ [c]) (n + 1) := by
  refine ⟨hv, fun i hi g hg => ?_⟩
  by_cases h1 : i < n
  · rw [List.getD_eq_getElem?_getD, List.getElem?_append_left (by omega), ← List.getD_eq_getElem?_getD] at hg
    exact h.2 i h1 g hg
  · obtain rfl : i = cs.length := by omega
    rw [List.getD_eq_getElem?_getD, List.getElem?_append_right (Nat.le_refl _)] at hg
    exact hc g (by simpa using hg)
theorem OwnK.shift {gh lo hi hi' : Nat} {w w' : World} {v : Value} {ps : List (List Int × Int)} {cs : List Value} (h : OwnK lo hi w v ps cs) (ho : Only gh (gh + 1) w w') (ha : Av gh v cs ps.length) (h2 : hi ≤ hi') : OwnK lo hi' w' v ps cs := by
  refine OwnK.mono' (hi := hi) ⟨ownsRow_block h.1 (fun g hg => ho.block g (h.1.lt g hg).2 (by have := ha.1 g hg; omega)), h.2.1, h.2.2.keep fun g _ _ hgs hx => ?_⟩ (Nat.le_refl _) h2
  obtain ⟨i, hi, he⟩ := hx
  exact ho.block g hgs (by have := ha.2 i (by simpa using hi) g he; omega)
/-- One plane more; its weights lie behind the list. -/
theorem OwnK.push2 {B M : Nat} {W1 W2 : World} {v v' c : Value} {ps : List (List Int × Int)} {cs : List Value} {ws : List Int} {b : Int} (h : OwnK B M W1 v ps cs) (hBM : B ≤ M) (hM : M ≤ W1.heap.size)
    (hc : OwnI M W1.heap.size W1 c ws) (hrow : W2.ownsRow B 27 2 v' (ps.length + 1) (flatJ cs ps ++ [c, .int .i64 b])) (hg : W1.grownBy W2 v.ownBlock) : OwnK B W2.heap.size W2 v' (ps ++ [(ws, b)]) (cs ++ [c]) := by
  have hvl := fun g (e : v.ownBlock = some g) => h.2.1 g e
  have hr2 : RowsOf B M W2 cs (ps.map Prod.fst) := h.2.2.keep fun g _ _ hgs ⟨i, hi, he⟩ => hg.block g hgs fun e => by
    have hri := h.2.2.2.1 i hi
    exact ownsRow_ne hri.1 h.1 (by decide) he e.symm
  have hc2 : OwnI M W2.heap.size W2 c ws := (hc.block fun g he => hg.block g (hc.lt he).2.2 fun e => by
    have h1 := hvl g e.symm
    have h2 := hc.lt he
    omega).mono (Nat.le_refl _) hg.size
  exact OwnK.snoc hr2 hrow (fun g e => (hrow.lt g e).2) hc2 hBM (Nat.le_trans hM hg.size)
/-- A list of planes and a list of numbers, clear of each other. -/
def TwoOf (lo hi : Nat) (w : World) (v u : Value) (ps : List (List Int × Int)) (zs : List Int) : Prop := ∃ gh cs, u.ownBlock = some gh ∧ OwnI lo hi w u zs ∧ OwnK lo hi w v ps cs ∧ Av gh v cs ps.length
def MadeJI (ps : List (List Int × Int)) (zs : List Int) (w : World) (e : Ending) (w' : World) : Prop := ∃ v u, e = .returned (.tuple #[v, u]) ∧ TwoOf w.heap.size w'.heap.size w' v u ps zs ∧ Below w.heap.size w w'
def RetJIB (ps : List (List Int × Int)) (zs : List Int) (ok : Bool) (w : World) (e : Ending) (w' : World) : Prop := ∃ v u, e = .returned (.tuple #[v, u, .bool ok]) ∧ TwoOf w.heap.size w'.heap.size w' v u ps zs ∧ Below w.heap.size w w'
theorem ms_at {rows : List (List Int)} {zs hs : List Int} {ms : List Int} (hm : msOf rows zs hs = ms) (j : Nat) (h : j < ms.length) : ∃ p : Nat, ms.getD j 0 = (p : Int) ∧ p < rows.length := by
  subst hm
  obtain ⟨h1, h2⟩ := mis_up rows zs (bestX rows zs hs).1 (bestX rows zs hs).2 rows.length
  have h3 := h1.1 j h
  have h4 := h2 j h
  refine ⟨((msOf rows zs hs).getD j 0).toNat, ?_, ?_⟩ <;> unfold msOf at * <;> omega
theorem ms_bd {rows : List (List Int)} {zs : List Int} (k : Nat) (hk : k ≤ 8) {ms : List Int} (hm : msOf rows zs (hfTo rows zs k) = ms) (j : Nat) (h : j ≤ ms.length) (i : Nat) : 0 ≤ (dblTo (hfTo rows zs k) ms j).getD i 0 ∧ (dblTo (hfTo rows zs k) ms j).getD i 0 ≤ 512 := by
  subst hm
  have h1 := (dblTo_bd (hfTo_bd rows zs k) (mis_up rows zs (bestX rows zs (hfTo rows zs k)).1 (bestX rows zs (hfTo rows zs k)).2 rows.length).1 j h).1 i
  have h2 : (2 : Int) ^ k ≤ 2 ^ 8 := by
    exact_mod_cast Nat.pow_le_pow_right (by omega) hk
  have h3 : (2 : Int) ^ 8 = 256 := by decide
  unfold msOf
  omega
/-- A number is doubled in its place. -/
theorem dbl_own {w : World} {C g cap n : Nat} {hs : List Int} (hl : hs.length = n) (ho : w.ownsRow C 3 1 (.slice (some ⟨g, 0, none⟩) n cap) n (hs.map (Value.int .i64))) (p : Nat) (hp : p < n) :
    w.cell? ⟨g, p, none⟩ = some (.int .i64 (hs.getD p 0)) ∧ (w.setCell ⟨g, p, none⟩ (.int .i64 (2 * hs.getD p 0))).ownsRow C 3 1 (.slice (some ⟨g, 0, none⟩) n cap) n ((dbl hs p).map (Value.int .i64)) := by
  refine ⟨?_, ?_⟩
  · rw [ho.cellAt p (by simp; omega), List.getElem?_map, List.getD_eq_getElem?_getD, List.getElem?_eq_getElem (by omega)]
    rfl
  · have := (ho.stored p (.int .i64 (2 * hs.getD p 0))).1
    unfold dbl
    rw [List.map_set]
    exact this
end Go.Proofs.Ythohnnobahcdpaa.boostl
