/- Lists of truth values that a call has made, in an interval of blocks: plain lemmas, no condition. -/
import Derived.Test.YtncidajjeccbkaaOwnG
namespace Go.Proofs.Ytncidajjeccbkaa.ownb
open Go.RowKit own 
set_option linter.unusedVariables false
set_option linter.unusedSimpArgs false

/-- The truth values of the first n places. -/
def tf (p : Nat → Bool) (n : Nat) : List Value := (List.range n).map fun k => Value.bool (p k)
theorem tf_length (p : Nat → Bool) (n : Nat) : (tf p n).length = n := by simp [tf]
theorem tf_succ (p : Nat → Bool) (n : Nat) : tf p (n + 1) = tf p n ++ [.bool (p n)] := by simp [tf, List.range_succ]
theorem tf_at (p : Nat → Bool) (n k : Nat) (h : k < n) : (tf p n)[k]? = some (.bool (p k)) := by simp [tf, h]
/-- A slice of truth values that lies in its own block, from lo on and below hi. -/
def OwnB (lo hi : Nat) (w : World) (v : Value) (n : Nat) (p : Nat → Bool) : Prop :=
  w.ownsRow lo 4 1 v n (tf p n) ∧ ∀ g, v.ownBlock = some g → g < hi
theorem OwnB.lt {lo hi : Nat} {w : World} {v : Value} {n : Nat} {p : Nat → Bool} (h : OwnB lo hi w v n p) {g : Nat} (hg : v.ownBlock = some g) : lo ≤ g ∧ g < hi ∧ g < w.heap.size :=
  ⟨(h.1.lt g hg).1, h.2 g hg, (h.1.lt g hg).2⟩
theorem OwnB.of {lo : Nat} {w : World} {v : Value} {n : Nat} {p : Nat → Bool} (h : w.ownsRow lo 4 1 v n (tf p n)) : OwnB lo w.heap.size w v n p :=
  ⟨h, fun g hg => (h.lt g hg).2⟩
theorem OwnB.mono {lo hi lo' hi' : Nat} {w : World} {v : Value} {n : Nat} {p : Nat → Bool} (h : OwnB lo hi w v n p) (h1 : lo' ≤ lo) (h2 : hi ≤ hi') : OwnB lo' hi' w v n p :=
  ⟨ownsRow_base h.1 (fun g hg => Nat.le_trans h1 (h.lt hg).1), fun g hg => Nat.lt_of_lt_of_le (h.2 g hg) h2⟩
theorem OwnB.block {lo hi : Nat} {w w' : World} {v : Value} {n : Nat} {p : Nat → Bool} (h : OwnB lo hi w v n p) (hb : ∀ g, v.ownBlock = some g → w'.heap[g]? = w.heap[g]?) : OwnB lo hi w' v n p := ⟨ownsRow_block h.1 hb, h.2⟩
theorem OwnB.only {lo hi lo' hi' : Nat} {w w' : World} {v : Value} {n : Nat} {p : Nat → Bool} (h : OwnB lo hi w v n p) (ho : Only lo' hi' w w') (hd : hi ≤ lo' ∨ hi' ≤ lo) : OwnB lo hi w' v n p :=
  h.block fun g hg => by have := h.lt hg; exact ho.block g this.2.2 (by omega)
theorem OwnB.below {lo hi : Nat} {w w' : World} {v : Value} {n : Nat} {p : Nat → Bool} (h : OwnB lo hi w v n p) (hb : Below w.heap.size w w') : OwnB lo hi w' v n p :=
  h.block fun g hg => hb.block g (h.lt hg).2.2
/-- What it is as a value, if it is not empty. -/
theorem OwnB.slice {lo hi : Nat} {w : World} {v : Value} {n : Nat} {p : Nat → Bool} (h : OwnB lo hi w v n p) (hn : 1 ≤ n) : ∃ g c, v = .slice (some ⟨g, 0, none⟩) n c ∧ lo ≤ g ∧ g < hi ∧ g < w.heap.size ∧ n ≤ c ∧ ∀ k, k < n → w.cell? ⟨g, k, none⟩ = some (.bool (p k)) := by
  have hlt := fun g hg => h.lt (g := g) hg
  rcases h.1.2 with ⟨rfl, h0⟩ | ⟨g, cap, cur, rfl, hl, hh, hnc, hm, hs, ht⟩
  · omega
  · refine ⟨g, cap, rfl, (hlt g rfl).1, (hlt g rfl).2.1, (hlt g rfl).2.2, hnc, fun k hk => ?_⟩
    have hx := h.1.cells (g := g) rfl k (.bool (p k)) (tf_at p n k hk)
    rw [Go.WideShapes.add_plain, Nat.zero_add] at hx
    exact hx
/-- What a call makes. -/
def MadeB (n : Nat) (p : Nat → Bool) (w : World) (e : Ending) (w' : World) : Prop := ∃ v, e = .returned v ∧ OwnB w.heap.size w'.heap.size w' v n p ∧ Below w.heap.size w w'
theorem infoBool : (Try.prog.info? 4).map (fun i => (i.zero, i.size, i.bytes)) = some (some (.bool false), 1, 1) := by kernel_rfl
end Go.Proofs.Ytncidajjeccbkaa.ownb
