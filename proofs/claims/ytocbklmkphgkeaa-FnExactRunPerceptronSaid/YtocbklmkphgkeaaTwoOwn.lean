/- Two lists in blocks of their own lie in two intervals: a plain lemma, no condition. -/
import Derived.Test.YtocbklmkphgkeaaOwnG
namespace Go.Proofs.Ytocbklmkphgkeaa.own
open Go.RowKit

theorem own_two {lo hi : Nat} {w : World} {v u : Value} {zs ys : List Int} (h : OwnI lo hi w v zs) (k : OwnI lo hi w u ys) (hd : ∀ g, v.ownBlock = some g → u.ownBlock ≠ some g) (hlo : lo ≤ w.heap.size) :
    ∃ l1 h1 l2 h2, OwnI l1 h1 w v zs ∧ OwnI l2 h2 w u ys ∧ (h1 ≤ l2 ∨ h2 ≤ l1) ∧ lo ≤ l1 ∧ lo ≤ l2 ∧ h1 ≤ hi ∧ h2 ≤ hi ∧ l1 ≤ w.heap.size ∧ l2 ≤ w.heap.size := by
  cases hv : v.ownBlock with
  | none =>
    exact ⟨lo, 0, lo, hi, h.narrow (fun g hg => by rw [hv] at hg; cases hg), k, .inl (Nat.zero_le _), Nat.le_refl _, Nat.le_refl _, Nat.zero_le _, Nat.le_refl _, hlo, hlo⟩
  | some g =>
    have hg := h.lt hv
    have hn : OwnI g (g + 1) w v zs := h.narrow fun g' hg' => by rw [hv] at hg'; cases hg'; omega
    cases hu : u.ownBlock with
    | none => exact ⟨g, g + 1, lo, 0, hn, k.narrow (fun g' hg' => by rw [hu] at hg'; cases hg'), .inr (Nat.zero_le _), hg.1, Nat.le_refl _, by omega, Nat.zero_le _, by omega, hlo⟩
    | some q =>
      have hq := k.lt hu
      have hne : g ≠ q := fun e => hd g hv (by rw [hu, e])
      exact ⟨g, g + 1, q, q + 1, hn, k.narrow (fun g' hg' => by rw [hu] at hg'; cases hg'; omega), by omega, hg.1, hq.1, by omega, by omega, by omega, by omega⟩
end Go.Proofs.Ytocbklmkphgkeaa.own
