/- Neighbors in a row. -/
import Derived.Test.YtkbcofgigfnfaaaOwnG
import Derived.Test.YtkbcofgigfnfaaaSetCell
import Derived.Test.YtkbcofgigfnfaaaNearP
namespace Go.Proofs.Ytkbcofgigfnfaaa.chain
open Go.RowKit own pp nums nearp
set_option linter.unusedVariables false
set_option linter.unusedSimpArgs false

/-- A neighbor put in behind those that are at most as far. -/
def insC (p d : Int) : List (Int × Int) → List (Int × Int)
  | [] => [(p, d)]
  | x :: l => if d < x.2 then (p, d) :: x :: l else x :: insC p d l
/-- Neighbors in a row, each in a block of its own. -/
def Nod (w : World) : List Nat → List (Int × Int) → Option Addr → Prop
  | [], [], p => p = none
  | b :: bs, x :: l, p => p = some ⟨b, 0, none⟩ ∧ b ∉ bs ∧ b < w.heap.size ∧ w.cell? ⟨b, 0, none⟩ = some (.int .i64 x.1) ∧ w.cell? ⟨b, 1, none⟩ = some (.int .i64 x.2) ∧ w.frozen? ⟨b, 2, none⟩ = false ∧ ∃ q, w.cell? ⟨b, 2, none⟩ = some (.pointer q) ∧ Nod w bs l q
  | _, _, _ => False
theorem stir_cell {S : Nat → Prop} {w w' : World} (h : Stir S w w') {b o : Nat} {x : Value} (hx : w.cell? ⟨b, o, none⟩ = some x) (hs : b < w.heap.size) (hb : ¬ S b) : w'.cell? ⟨b, o, none⟩ = some x :=
  (World.cell?_of_block (h.block b hs hb)).trans hx
theorem stir_fro {S : Nat → Prop} {w w' : World} (h : Stir S w w') {b o : Nat} (hx : w.frozen? ⟨b, o, none⟩ = false) (hs : b < w.heap.size) (hb : ¬ S b) : w'.frozen? ⟨b, o, none⟩ = false := by
  unfold World.frozen? at hx ⊢
  rw [show w'.heap[(⟨b, o, none⟩ : Addr).block]? = w.heap[(⟨b, o, none⟩ : Addr).block]? from h.block b hs hb]
  exact hx
theorem stir_set (w : World) (b o : Nat) (u : Value) : Stir (fun k => k = b) w (w.setCell ⟨b, o, none⟩ u) :=
  ⟨rfl, rfl, rfl, by rw [size_set]; exact Nat.le_refl _, fun k _ hk => Below.heap_setCell _ _ _ _ (fun e => hk e)⟩
theorem Nod.stir {S : Nat → Prop} {w w' : World} {bs : List Nat} {l : List (Int × Int)} {p : Option Addr} (h : Nod w bs l p) (ht : Stir S w w') (hS : ∀ b ∈ bs, ¬ S b) : Nod w' bs l p := by
  induction bs generalizing l p with
  | nil => cases l with
    | nil => exact h
    | cons x l => exact h.elim
  | cons b bs ih => cases l with
    | nil => exact h.elim
    | cons x l =>
      obtain ⟨h1, h2, h3, h4, h5, h6, q, h7, h8⟩ := h
      have hb := hS b (by simp)
      exact ⟨h1, h2, Nat.lt_of_lt_of_le h3 ht.size, stir_cell ht h4 h3 hb, stir_cell ht h5 h3 hb, stir_fro ht h6 h3 hb, q, stir_cell ht h7 h3 hb, ih h8 fun c hc => hS c (by simp [hc])⟩
theorem Nod.lt {w : World} {bs : List Nat} {l : List (Int × Int)} {p : Option Addr} (h : Nod w bs l p) {b : Nat} (hb : b ∈ bs) : b < w.heap.size := by
  induction bs generalizing l p with
  | nil => simp at hb
  | cons b' bs ih => cases l with
    | nil => exact h.elim
    | cons x l =>
      obtain ⟨h1, h2, h3, h4, h5, h6, q, h7, h8⟩ := h
      rcases List.mem_cons.1 hb with rfl | h9
      · exact h3
      · exact ih h8 h9
theorem Nod.below {w w' : World} {bs : List Nat} {l : List (Int × Int)} {p : Option Addr} (h : Nod w bs l p) (hb : Below w.heap.size w w') : Nod w' bs l p := by
  refine h.stir (S := fun k => w.heap.size ≤ k) (Stir.of_below hb) fun b hb' => ?_
  have := h.lt hb'
  omega
/-- How the method ends. -/
def Put (w : World) (bs : List Nat) (l : List (Int × Int)) (e : Ending) (w' : World) : Prop :=
  ∃ q bs', e = .returned (.pointer q) ∧ Nod w' bs' l q ∧ (∀ b ∈ bs', b ∈ bs ∨ w.heap.size ≤ b) ∧ Stir (fun b => b ∈ bs) w w'
set_option maxRecDepth 100000 in
set_option maxHeartbeats 1600000 in
theorem with_any (l : List (Int × Int)) (bs : List Nat) (q : Option Addr) (p d : Int) (w : World) (h : Nod w bs l q) :
    Calls Try.prog 117 #[.pointer q, .int .i64 p, .int .i64 d] w (Put w bs (insC p d l)) := by
  induction l generalizing bs q w with
  | nil =>
    cases bs with
    | cons b bs => exact h.elim
    | nil =>
    have h0 : q = none := h
    subst h0
    clear h
    have HF := Lib.hid (show Put w [] (insC p d []) (.returned (.pointer (some ⟨w.heap.size, 0, none⟩))) (w.alloc (.cells #[.int .i64 p, .int .i64 d, .pointer none] 115)) from
      ⟨_, [w.heap.size], rfl, ⟨rfl, by simp, by simp, cell_new _ _ _ rfl rfl, cell_new _ _ _ rfl rfl, fro_new _ _ _ rfl, none, cell_new _ _ _ rfl rfl, rfl⟩, by simp, Stir.of_below (below_alloc _ _)⟩)
    go_enter Try.func117, Try.ntmps117
    go_wp2_with fail
    go_ret
    exact HF.out
  | cons x l ih =>
    cases bs with
    | nil => exact h.elim
    | cons b bs =>
    have h' := h
    obtain ⟨h1, h2, h3, h4, h5, h6, q1, h7, h8⟩ := h'
    subst h1
    by_cases hd : d < x.2
    · have hi : insC p d (x :: l) = (p, d) :: x :: l := if_pos hd
      have HF := Lib.hid (show Put w (b :: bs) (insC p d (x :: l)) (.returned (.pointer (some ⟨w.heap.size, 0, none⟩))) (w.alloc (.cells #[.int .i64 p, .int .i64 d, .pointer (some ⟨b, 0, none⟩)] 115)) from by
        refine ⟨_, w.heap.size :: b :: bs, rfl, ?_, fun c hc => ?_, Stir.of_below (below_alloc _ _)⟩
        · rw [hi]
          exact ⟨rfl, fun e => by have := h.lt e; omega, by simp, cell_new _ _ _ rfl rfl, cell_new _ _ _ rfl rfl, fro_new _ _ _ rfl, _, cell_new _ _ _ rfl rfl, h.below (below_alloc _ _)⟩
        · rcases List.mem_cons.1 hc with rfl | hc
          · exact .inr (Nat.le_refl _)
          · exact .inl hc)
      have g : decide (d < x.2) = true := by simpa using hd
      clear hd hi ih h h8 h2 h6
      generalize x.2 = x2 at *
      go_enter Try.func117, Try.ntmps117
      go_wp2_with fail
      go_ret
      exact HF.out
    · have hi : insC p d (x :: l) = x :: insC p d l := if_neg hd
      have HI := Lib.hid (ih bs q1 w h8)
      have HN := Lib.hid h
      have H2 := Lib.hid h2
      have g : decide (d < x.2) = false := by simpa using hd
      have HX := Lib.hid hi
      clear hd hi ih h h8 h2
      have h9 := h5
      generalize hx2 : x.2 = x2 at *
      go_enter Try.func117, Try.ntmps117
      go_wp2_with fail
      refine HI.out.mono ?_
      rintro e w2 ⟨q2, bs2, rfl, hn2, hs2, ht2⟩
      have hz2 := ht2.size
      have k4 := stir_cell ht2 h4 h3 H2.out
      have k5 := stir_cell ht2 h5 h3 H2.out
      have k6 := stir_fro ht2 h6 h3 H2.out
      have k7 := stir_cell ht2 h7 h3 H2.out
      have hb2 : b ∉ bs2 := fun e => by
        rcases hs2 b e with h | h
        · exact H2.out h
        · omega
      have HF := Lib.hid (show Put w (b :: bs) (insC p d (x :: l)) (.returned (.pointer (some ⟨b, 0, none⟩))) (w2.setCell ⟨b, 2, none⟩ (.pointer q2)) from by
        refine ⟨_, b :: bs2, rfl, ?_, fun c hc => ?_, ?_⟩
        · rw [HX.out]
          refine ⟨rfl, hb2, by rw [size_set]; omega, ?_, ?_, ?_, q2, World.cell?_setCell_same _ _ _ k7, hn2.stir (stir_set w2 b 2 _) fun c hc e => hb2 (e ▸ hc)⟩
          · exact (World.cell?_setCell_other _ _ _ _ (by simp)).trans k4
          · rw [hx2]; exact (World.cell?_setCell_other _ _ _ _ (by simp)).trans k5
          · simp only [World.frozen?_setCell]; exact k6
        · rcases List.mem_cons.1 hc with rfl | hc
          · exact .inl (by simp)
          · rcases hs2 c hc with h | h
            · exact .inl (by simp [h])
            · exact .inr h
        · exact (ht2.mono fun k hk => by simp [hk]).trans ((stir_set w2 b 2 _).mono fun k hk => by simp [hk]))
      clear hn2 hs2 ht2 hb2 hx2
      go_wp2_with fail
      go_ret
      exact HF.out
end Go.Proofs.Ytkbcofgigfnfaaa.chain
