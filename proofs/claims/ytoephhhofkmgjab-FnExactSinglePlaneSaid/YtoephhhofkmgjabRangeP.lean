/- A range over a function, where the iterator tells what lies behind each value that it yields: the caller's law. Conditions: the iterator's contract, and a walk of the body. -/
import Derived.RangeFuncNested
import Derived.RangeFuncBound
import Derived.RangeFuncBox
import Derived.RangeFuncCalls
import Derived.RangeFuncLeaves
import Derived.Shelf.Abstract
import Derived.WalkKit
import Derived.OwnWalkIn
import Derived.TacticsInMore
import Derived.LoopNIn
import Derived.LoopIn
import Derived.Maps.AppendAt
import Derived.Lib.Hide
import Derived.Test.YtoephhhofkmgjabRows
namespace Go.Proofs.Ytoephhhofkmgjab.rangep
open Go Go.RowKit Go.Shelf
set_option linter.unusedVariables false

variable {F : Fence} {n : Nat} {P : Program}
/-- The iterator's contract: it yields in order; when it yields x behind pre, Px pre x holds. -/
def SeqP {α : Type} (F : Fence) (n : Nat) (P : Program) (g : Nat) (lb : Array Value) (encs : α → Array Value) (Kp : World → World → Prop) (Px : List α → α → World → Prop) (S Sp : List α → Prop) (w : World) : Prop :=
  ∀ (l : Nat) (J Jx : List α → World → Prop) (W : World), Below w.heap.size w W → AbidesFrom W.heap.size J → AbidesFrom W.heap.size Jx →
    (∀ pre x W1, J pre W1 → Px pre x W1 → YieldAt F (n - 1) P l (encs x) W1 fun e W' =>
      (e = .returned (.bool true) ∧ J (pre ++ [x]) W' ∧ Kp W1 W') ∨ (e = .returned (.bool false) ∧ Jx (pre ++ [x]) W')) →
    J [] W →
    CallsIn F n P g (#[.func (.yield l) #[] #[]] ++ lb) W fun e W' => (∃ v, e = .returned v) ∧ ((∃ ys, S ys ∧ J ys W') ∨ (∃ pre, Sp pre ∧ Jx pre W'))
/-- The record of a loop under way. -/
def recOf (fn : FuncId) (tmps : Array Value) (ps : Array Tmp) (assign body : Code) (D : Nat) (st : LoopState) (pe : Option Code) : Loop := { state := st, pending := pe, fn := fn, tmps := tmps, params := ps, assign := assign, body := body, defers := D }

/-- One round, from the walks of the assign code and of the body. -/
theorem round_at {α : Type} {ps : Array Tmp} {assign body : Code} {tmps : Array Value} {fn : FuncId} {B m : Nat} (hfn : F.fn fn) {encs : α → Array Value} (hps : ∀ x, (encs x).size = ps.size) {Kp : World → World → Prop} (hKt : ∀ {A B C : World}, Kp A B → Kp B C → Kp A C)
    (hKb : ∀ (W : World) (l : Nat) (o o' : Obj), B ≤ l → W.heap[l]? = some o → o.isCells = false → o.isWalk = false → Kp W (W.putObj l o'))
    {I : List α → World → Prop} {Ix : Code → List α → World → Prop} (hI : OwnFrom B I) (hIx : ∀ c, OwnFrom B (Ix c)) {pre : List α} {x : α} {a₁ : Act} {Q : World → Prop} (hQ : OwnFrom B (fun (_ : Unit) W => Q W))
    (hassign : ∀ (l : Nat) (W : World) (K : Act → World → Prop), K a₁ W → assign.wpIn (F.inRound l) m P (Exit.then K (fun _ _ _ => False)) { tmps := (ps.zip (encs x)).foldl (fun t (p, v) => t.setIfInBounds p v) tmps, defers := [] } W)
    (hbody : ∀ (l : Nat) (W : World), I pre W → Q W → body.wpIn (F.inRound l) m P (ownPostG B Kp I Ix (pre ++ [x]) W) a₁ W)
    {W : World} (hi : I pre W) (hq : Q W) (hl : W.heap[B + 1]? = some (.loop (recOf fn tmps ps assign body B .ready none))) (hk : W.heap[B]? = some (.deferred (some []))) :
    YieldAt F m P (B + 1) (encs x) W fun e W' => (e = .returned (.bool true) ∧ (I (pre ++ [x]) W' ∧ W'.heap[B + 1]? = some (.loop (recOf fn tmps ps assign body B .ready none)) ∧ W'.heap[B]? = some (.deferred (some []))) ∧ Kp W W') ∨
      (e = .returned (.bool false) ∧ ∃ c, Ix c (pre ++ [x]) W' ∧ W'.heap[B + 1]? = some (.loop (recOf fn tmps ps assign body B .done (some c))) ∧ W'.heap[B]? = some (.deferred (some []))) := by
  have hlt := (Array.getElem?_eq_some_iff.1 hl).1
  refine ⟨fn, _, assign, body, run_yield (P := P) (args := encs x) hl (hps x), roundIn_of_wpIn hfn (hassign _ W _ ⟨_, run_beginRound hl rfl, ?_⟩)⟩
  have busy : (W.putObj (B + 1) (.loop (recOf fn tmps ps assign body B .busy none))).heap[B + 1]? = some (.loop (recOf fn tmps ps assign body B .busy none)) := World.putObj_heap_same hlt
  have keep : (W.putObj (B + 1) (.loop (recOf fn tmps ps assign body B .busy none))).heap[B]? = some (.deferred (some [])) := (World.putObj_heap_other (by omega)).trans hk
  refine wpIn_mono (hbody (B + 1) _ (hI.putObj _ hi (by omega) hl rfl) (hQ.putObj (s := ()) _ hq (by omega) hl rfl)) ?_
  have over : ∀ (j : Option Code) (V : World), KeepsFrom B (W.putObj (B + 1) (.loop (recOf fn tmps ps assign body B .busy none))) V →
      V.heap[B + 1]? = some (.loop (recOf fn tmps ps assign body B .busy none)) ∧ (Instr.endRound (B + 1) j).run P V = .ok (.bool j.isNone) (V.putObj (B + 1) (.loop (recOf fn tmps ps assign body B (if j.isNone then .ready else .done) j))) ∧
      (V.putObj (B + 1) (.loop (recOf fn tmps ps assign body B (if j.isNone then .ready else .done) j))).heap[B + 1]? = some (.loop (recOf fn tmps ps assign body B (if j.isNone then .ready else .done) j)) ∧
      (V.putObj (B + 1) (.loop (recOf fn tmps ps assign body B (if j.isNone then .ready else .done) j))).heap[B]? = some (.deferred (some [])) := fun j V hV => by
    have h1 := hV.same _ _ (by omega) busy rfl
    exact ⟨h1, run_endRound (P := P) j h1, World.putObj_heap_same (Array.getElem?_eq_some_iff.1 h1).1, (World.putObj_heap_other (by omega)).trans (hV.same _ _ (Nat.le_refl _) keep rfl)⟩
  rintro e a3 V hp
  cases e with
  | normal =>
    obtain ⟨hV, hkp, hi3⟩ := hp
    obtain ⟨h1, h2, h3, h4⟩ := over none V hV
    exact ⟨_, _, h2, .inl ⟨rfl, ⟨hI.putObj _ hi3 (by omega) h1 rfl, h3, h4⟩, hKt (hKb _ _ _ _ (by omega) hl rfl rfl) (hKt hkp (hKb _ _ _ _ (by omega) h1 rfl rfl))⟩⟩
  | ret =>
    obtain ⟨hV, hc⟩ := hp
    obtain ⟨h1, h2, h3, h4⟩ := over (some .ret) V hV
    exact ⟨_, _, h2, .inr ⟨rfl, .ret, (hIx _).putObj _ hc (by omega) h1 rfl, h3, h4⟩⟩
  | exit id =>
    obtain ⟨hV, hc⟩ := hp
    obtain ⟨h1, h2, h3, h4⟩ := over (some (.exit id)) V hV
    exact ⟨_, _, h2, .inr ⟨rfl, (.exit id), (hIx _).putObj _ hc (by omega) h1 rfl, h3, h4⟩⟩
  | goto t =>
    obtain ⟨hV, hc⟩ := hp
    obtain ⟨h1, h2, h3, h4⟩ := over (some (.goto t)) V hV
    exact ⟨_, _, h2, .inr ⟨rfl, (.goto t), (hIx _).putObj _ hc (by omega) h1 rfl, h3, h4⟩⟩
  | panic ch => exact hp.elim
  | outgrown => exact hp.elim
/-- The caller's law, at the top of a function. -/
theorem range_p {α : Type} {g : Operand} {ps : Array Tmp} {assign body : Code} {Q : Exit → Act → World → Prop} {a : Act} {w : World}
    (hro : F.round = none) (h1 : 1 ≤ n) {gf : Nat} {lb : Array Value} (hg : a.eval g = .func (.func gf) #[] lb) (hFg : F.fn gf) (eg : ∀ args w, (callFunc gf args).run P w = .ok (.enter gf args) w)
    {encs : α → Array Value} {Kp : World → World → Prop} {Px : List α → α → World → Prop} {S Sp : List α → Prop} {w0 : World} (hseq : SeqP F (n - 1) P gf lb encs Kp Px S Sp w0)
    (hKt : ∀ {A B C : World}, Kp A B → Kp B C → Kp A C) (hKb : ∀ (W : World) (l : Nat) (o o' : Obj), w.heap.size ≤ l → W.heap[l]? = some o → o.isCells = false → o.isWalk = false → Kp W (W.putObj l o')) (hb0 : Below w0.heap.size w0 w) (hps : ∀ x, (encs x).size = ps.size)
    (I : List α → World → Prop) (Ix : Code → List α → World → Prop) (hI : OwnFrom w.heap.size I) (hIx : ∀ c, OwnFrom w.heap.size (Ix c)) (h0 : I [] w) (hPx : ∀ pre x, OwnFrom w.heap.size (fun (_ : Unit) W => Px pre x W)) (a₁ : α → Act)
    (hassign : ∀ (l : Nat) (x : α) (W : World) (K : Act → World → Prop), K (a₁ x) W → assign.wpIn (F.inRound l) (n - 1 - 1) P (Exit.then K (fun _ _ _ => False)) { tmps := (ps.zip (encs x)).foldl (fun t (p, v) => t.setIfInBounds p v) a.tmps, defers := [] } W)
    (hbody : ∀ (l : Nat) (pre : List α) (x : α) (W : World), I pre W → Px pre x W → body.wpIn (F.inRound l) (n - 1 - 1) P (ownPostG w.heap.size Kp I Ix (pre ++ [x]) W) (a₁ x) W)
    (hdone : ∀ (D : Nat) (xs : List α) (W : World), w.heap.size ≤ D → S xs → I xs W → W.heap[D]? = some (.deferred (some [])) → Q .normal { a with defers := { target := .collected D, args := #[] } :: a.defers } W)
    (hstop : ∀ (D : Nat) (c : Code) (pre : List α) (W : World), w.heap.size ≤ D → Sp pre → Ix c pre W → W.heap[D]? = some (.deferred (some [])) → c.wpIn F n P Q { a with defers := { target := .collected D, args := #[] } :: a.defers } W) :
    (Code.rangeFunc g ps assign body).wpIn F n P Q a w := by
  refine wpIn_rangeFunc fun fn hfn => ?_
  rw [hro]
  obtain ⟨V, hV⟩ : ∃ V, V = (w.alloc (.deferred (some []))).alloc (.loop (recOf fn a.tmps ps assign body w.heap.size .ready none)) := ⟨_, rfl⟩
  have hsz : V.heap.size = w.heap.size + 2 := by rw [hV]; simp
  have hloop : V.heap[w.heap.size + 1]? = some (.loop (recOf fn a.tmps ps assign body w.heap.size .ready none)) := by
    have h := World.alloc_heap_new (w.alloc (.deferred (some []))) (.loop (recOf fn a.tmps ps assign body w.heap.size .ready none))
    rw [World.size_alloc] at h
    rw [hV]; exact h
  have hdef : V.heap[w.heap.size]? = some (.deferred (some [])) := by rw [hV]; exact (Below.heap_alloc _ _ _ (by simp)).trans (World.alloc_heap_new w _)
  have hIV : I [] V := by rw [hV]; exact hI.alloc _ (hI.alloc _ h0)
  have hbV : Below w0.heap.size w0 V := by rw [hV]; exact (hb0.alloc hb0.size _).alloc (Nat.le_trans hb0.size (by simp)) _
  refine ⟨w.heap.size + 1, [{ target := .collected w.heap.size, args := #[] }], V, { target := .fn (.func gf) lb, args := #[.func (.yield (w.heap.size + 1)) #[] #[]] }, V, gf, #[.func (.yield (w.heap.size + 1)) #[] #[]] ++ lb, V, ?_, ?_, ?_, ?_, fun _ => h1, ?_⟩
  · rw [hV]; exact run_enterLoop_outer _ _ _ _ _
  · simp only [resolve, hg]
    simp [go_sem]
  · intro f' hf'
    simp [Target.leads] at hf'
    subst hf'
    exact hFg
  · simp [invoke, go_sem, eg]
  · have walk : ∀ {A : World} {row : Option Nat}, (∀ r, row = some r → V.heap.size ≤ r ∧ ∃ o : Obj, A.heap[r]? = some o ∧ o.isWalk = true) → (∀ r, row = some r → w.heap.size ≤ r ∧ ∃ o : Obj, A.heap[r]? = some o ∧ o.isCells = false) := fun hr r e => by
      obtain ⟨k1, o, ho, hw⟩ := hr r e
      exact ⟨by omega, o, ho, Obj.not_cells_of_walk hw⟩
    refine (hseq (w.heap.size + 1) (fun pre W => I pre W ∧ W.heap[w.heap.size + 1]? = some (.loop (recOf fn a.tmps ps assign body w.heap.size .ready none)) ∧ W.heap[w.heap.size]? = some (.deferred (some [])))
      (fun pre W => ∃ c, Ix c pre W ∧ W.heap[w.heap.size + 1]? = some (.loop (recOf fn a.tmps ps assign body w.heap.size .done (some c))) ∧ W.heap[w.heap.size]? = some (.deferred (some [])))
      V hbV ?_ ?_ ?_ ⟨hIV, hloop, hdef⟩).mono ?_
    · rintro s A B row ⟨k1, k2, k3⟩ hg' hr
      exact ⟨hI s A B row k1 hg' (walk hr), (grownBy_keeps hg' (fun r e => (hr r e).2) k2 rfl).trans k2, (grownBy_keeps hg' (fun r e => (hr r e).2) k3 rfl).trans k3⟩
    · rintro s A B row ⟨c, k1, k2, k3⟩ hg' hr
      exact ⟨c, hIx c s A B row k1 hg' (walk hr), (grownBy_keeps hg' (fun r e => (hr r e).2) k2 rfl).trans k2, (grownBy_keeps hg' (fun r e => (hr r e).2) k3 rfl).trans k3⟩
    · rintro pre x W ⟨k1, k2, k3⟩ hx
      exact round_at (Kp := Kp) hfn hps (fun h k => hKt h k) hKb hI hIx (hPx pre x) (fun l W K hK => hassign l x W K hK) (fun l W hi hq => hbody l pre x W hi hq) k1 hx k2 k3
    · rintro e W ⟨⟨v, rfl⟩, (⟨ys, hS, k1, k2, k3⟩ | ⟨pre, hSp, c, k1, k2, k3⟩)⟩
      · exact ⟨none, _, run_endLoop (P := P) k2 (by simp [recOf]), hdone _ ys _ (Nat.le_refl _) hS (hI.putObj _ k1 (by omega) k2 rfl) ((World.putObj_heap_other (by omega)).trans k3)⟩
      · exact ⟨some c, _, run_endLoop (P := P) k2 (by simp [recOf]), hstop _ c pre _ (Nat.le_refl _) hSp ((hIx c).putObj _ k1 (by omega) k2 rfl) ((World.putObj_heap_other (by omega)).trans k3)⟩
end Go.Proofs.Ytoephhhofkmgjab.rangep
