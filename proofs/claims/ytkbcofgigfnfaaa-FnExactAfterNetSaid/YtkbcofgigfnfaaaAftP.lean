/- A net behind another one: plain lemmas. -/
import Derived.Test.YtkbcofgigfnfaaaOwnNet
import Derived.Test.YtkbcofgigfnfaaaNetP
namespace Go.Proofs.Ytkbcofgigfnfaaa.aftp
open Go.RowKit own pp netp ownnet
set_option linter.unusedVariables false

def anB (n : Int) (ls : List (List (List Int × Int))) (n' : Int) (ms : List (List (List Int × Int))) : Bool := netB n ls && netB n' ms && decide (n' = ((ls.getD (ls.length - 1) []).length : Int)) && decide (ls.length + ms.length ≤ 6)
theorem anB_iff (n : Int) (ls : List (List (List Int × Int))) (n' : Int) (ms : List (List (List Int × Int))) : anB n ls n' ms = true ↔ netB n ls = true ∧ netB n' ms = true ∧ n' = ((ls.getD (ls.length - 1) []).length : Int) ∧ ls.length + ms.length ≤ 6 := by simp [anB, and_assoc]
theorem getD_left {α : Type} (xs ys : List α) (d : α) (i : Nat) (h : i < xs.length) : (xs ++ ys).getD i d = xs.getD i d := by
  rw [List.getD_eq_getElem?_getD, List.getD_eq_getElem?_getD, List.getElem?_append_left h]
theorem getD_right {α : Type} (xs ys : List α) (d : α) (i : Nat) (h : xs.length ≤ i) : (xs ++ ys).getD i d = ys.getD (i - xs.length) d := by
  rw [List.getD_eq_getElem?_getD, List.getD_eq_getElem?_getD, List.getElem?_append_right h]
theorem net_join {n n' : Int} {ls ms : List (List (List Int × Int))} (h : netB n ls = true) (h' : netB n' ms = true) (hn : n' = ((ls.getD (ls.length - 1) []).length : Int)) : netB n (ls ++ ms) = decide (ls.length + ms.length ≤ 6) := by
  obtain ⟨a1, a2, a3, a4, a5⟩ := (netB_iff _ _).1 h
  obtain ⟨b1, b2, b3, b4, b5⟩ := (netB_iff _ _).1 h'
  by_cases hl : ls.length + ms.length ≤ 6
  · rw [show decide (ls.length + ms.length ≤ 6) = true from decide_eq_true hl]
    refine (netB_iff _ _).2 ⟨a1, a2, by rw [List.length_append]; omega, by rw [List.length_append]; omega, fun i hi => ?_⟩
    rw [List.length_append] at hi
    by_cases hi2 : i < ls.length
    · have e : giv n.toNat (ls ++ ms) i = giv n.toNat ls i := by
        cases i with
        | zero => rfl
        | succ i => rw [giv_succ, giv_succ, getD_left _ _ _ _ (by omega)]
      rw [e, getD_left _ _ _ _ hi2]
      exact a5 i hi2
    · have e : giv n.toNat (ls ++ ms) i = giv n'.toNat ms (i - ls.length) := by
        obtain ⟨j, rfl⟩ : ∃ j, i = j + 1 := ⟨i - 1, by omega⟩
        rw [giv_succ]
        by_cases hj : j + 1 = ls.length
        · rw [getD_left _ _ _ _ (by omega), show j + 1 - ls.length = 0 by omega, giv_zero, hn, Int.toNat_natCast, show ls.length - 1 = j by omega]
        · rw [getD_right _ _ _ _ (by omega), show j + 1 - ls.length = (j - ls.length) + 1 by omega, giv_succ]
      rw [e, getD_right _ _ _ _ (by omega)]
      exact b5 _ (by omega)
  · rw [show decide (ls.length + ms.length ≤ 6) = false from decide_eq_false hl]
    cases e : netB n (ls ++ ms)
    · rfl
    · have := (net_len e).2
      rw [List.length_append] at this
      omega
theorem tot_join (ls ms : List (List (List Int × Int))) : totL (ls ++ ms) = totL ls + totL ms := by
  simp [totL]
/-- Two joined lists of lists, the second of which was made behind the first. -/
theorem LaysOf.join {lo mid hi : Nat} {w : World} {vs vs' : List Value} {css css' : List (List Value)} {ls ls' : List (List (List Int × Int))} (h : LaysOf lo mid w vs css ls) (h' : LaysOf mid hi w vs' css' ls') (h1 : lo ≤ mid) (h2 : mid ≤ hi) : LaysOf lo hi w (vs ++ vs') (css ++ css') (ls ++ ls') := by
  obtain ⟨a1, a2, a3, a4⟩ := h
  obtain ⟨b1, b2, b3, b4⟩ := h'
  refine ⟨by simp [a1, b1], by simp [a2, b2], fun i hi' => ?_, fun i j hij hj g hg => ?_⟩
  · rw [List.length_append] at hi'
    by_cases e : i < ls.length
    · rw [getD_left vs vs' undef i (by omega), getD_left ls ls' [] i e, getD_left css css' [] i (by omega)]
      exact (a3 i e).widen (Nat.le_refl _) h2
    · rw [getD_right vs vs' undef i (by omega), getD_right ls ls' [] i (by omega), getD_right css css' [] i (by omega), a1, a2]
      exact (b3 _ (by omega)).widen h1 (Nat.le_refl _)
  · rw [List.length_append] at hj
    by_cases e : j < ls.length
    · rw [getD_left vs vs' undef i (by omega), getD_left css css' [] i (by omega), getD_left ls ls' [] i (by omega)] at hg
      rw [getD_left vs vs' undef j (by omega), getD_left css css' [] j (by omega), getD_left ls ls' [] j e]
      exact a4 i j hij e g hg
    · rw [getD_right vs vs' undef j (by omega), getD_right css css' [] j (by omega), getD_right ls ls' [] j (by omega), a1, a2]
      by_cases e2 : i < ls.length
      · rw [getD_left vs vs' undef i (by omega), getD_left css css' [] i (by omega), getD_left ls ls' [] i e2] at hg
        intro hg'
        have h3 := ((a3 i e2).foot hg).2.1
        have h4 := ((b3 _ (by omega)).foot hg').1
        omega
      · rw [getD_right vs vs' undef i (by omega), getD_right css css' [] i (by omega), getD_right ls ls' [] i (by omega), a1, a2] at hg
        exact b4 _ _ (by omega) (by omega) g hg
/-- The headers of a list of lists that is read. -/
theorem ReadsL.heads {w : World} {a : Option Addr} {ls : List (List (List Int × Int))} (h : ReadsL w a ls) : ∃ vs : List Value, vs.length = ls.length ∧ (∀ u ∈ vs, u.oneCell' = true) ∧ (vs = [] ∨ ∃ b off, a = some ⟨b, off, none⟩ ∧ b < w.heap.size ∧ ∀ j u, vs[j]? = some u → w.cell? ((⟨b, off, none⟩ : Addr).add j) = some u) ∧ ∀ k, k < ls.length → ∃ p c, vs.getD k undef = .slice p (ls.getD k []).length c ∧ (ls.getD k []).length ≤ c ∧ ReadsJ w p (ls.getD k []) := by
  rcases h with rfl | ⟨b, off, e, hb, hc⟩
  · exact ⟨[], rfl, by simp, .inl rfl, fun k hk => by simp at hk⟩
  · obtain ⟨f, hf⟩ : ∃ f : Nat → Option Addr × Nat, ∀ k, k < ls.length → w.cell? ⟨b, off + k, none⟩ = some (.slice (f k).1 (ls.getD k []).length (f k).2) ∧ (ls.getD k []).length ≤ (f k).2 ∧ ReadsJ w (f k).1 (ls.getD k []) := by
      refine ⟨fun k => if hk : k < ls.length then ((hc k hk).choose, (hc k hk).choose_spec.choose) else (none, 0), fun k hk => ?_⟩
      have := (hc k hk).choose_spec.choose_spec
      simp only [dif_pos hk]
      exact this
    refine ⟨(List.range ls.length).map fun k => .slice (f k).1 (ls.getD k []).length (f k).2, by simp, fun u hu => ?_, .inr ⟨b, off, e, hb, fun j u hj => ?_⟩, fun k hk => ⟨(f k).1, (f k).2, ?_, (hf k hk).2⟩⟩
    · obtain ⟨k, _, rfl⟩ := List.mem_map.1 hu
      rfl
    · have hj2 := (List.getElem?_eq_some_iff.1 hj).1
      simp at hj2
      rw [List.getElem?_map, List.getElem?_range hj2] at hj
      simp at hj
      subst hj
      rw [Go.WideShapes.add_plain]
      have := (hf j hj2).1
      rw [List.getD_eq_getElem?_getD, List.getElem?_eq_getElem hj2] at this
      simpa [hj2] using this
    · simp [List.getD_eq_getElem?_getD, hk]
theorem lays_one {lo hi : Nat} {w : World} {vs : List Value} {css : List (List Value)} {ls : List (List (List Int × Int))} (h : LaysOf lo hi w vs css ls) : ∀ u ∈ vs, u.oneCell' = true := by
  intro u hu
  obtain ⟨i, hi', e⟩ := List.getElem_of_mem hu
  obtain ⟨p, c, hv, _⟩ := (show OwnJ lo hi w (vs.getD i undef) (ls.getD i []) from ⟨_, h.2.2.1 i (by rw [← h.1]; exact hi')⟩).slice
  rw [List.getD_eq_getElem?_getD, List.getElem?_eq_getElem hi'] at hv
  have hv2 : vs[i] = .slice p (ls.getD i []).length c := hv
  rw [← e, hv2]
  rfl
theorem lays_grow {lo hi base n : Nat} {W W' : World} {v : Value} {xs vs : List Value} {css : List (List Value)} {ls : List (List (List Int × Int))} (h : LaysOf lo hi W vs css ls) (how : W.ownsRow base 100 1 v n xs) (hg : W.grownBy W' v.ownBlock) : LaysOf lo hi W' vs css ls :=
  h.keep fun g hf => by
    obtain ⟨i, hi', hb⟩ := hf
    exact hg.block g ((h.2.2.1 i hi').foot hb).2.2 (fun e => (h.2.2.1 i hi').apart how e.symm hb)
theorem own_join {lo BB hi : Nat} {W : World} {p : Option Addr} {c : Nat} {vs vs' : List Value} {css css' : List (List Value)} {ls ls' : List (List (List Int × Int))} (hrow : W.ownsRow lo 100 1 (.slice p (ls.length + ls'.length) c) (ls.length + ls'.length) (vs ++ vs')) (h : LaysOf lo BB W vs css ls) (h' : LaysOf (BB + 1) hi W vs' css' ls') (h1 : lo ≤ BB) (h2 : BB + 1 ≤ hi) (h3 : hi ≤ W.heap.size) : OwnL lo W.heap.size W (.slice p (ls ++ ls').length c) (ls ++ ls') := by
  rw [List.length_append]
  refine ⟨vs ++ vs', css ++ css', by rw [List.length_append]; exact hrow, fun g hg => (hrow.lt g hg).2, (LaysOf.join (h.mono (Nat.le_refl _) (by omega : BB ≤ BB + 1)) h' (by omega) h2).mono (Nat.le_refl _) h3⟩
end Go.Proofs.Ytkbcofgigfnfaaa.aftp
