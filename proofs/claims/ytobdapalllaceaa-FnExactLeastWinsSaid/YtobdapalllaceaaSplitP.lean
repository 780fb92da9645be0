/- Splitting a voter: plain definitions and lemmas, no condition. -/
import Derived.Test.YtobdapalllaceaaPVote
import Derived.Test.YtobdapalllaceaaOwnG
import Derived.Lib.Walk
namespace Go.Proofs.Ytobdapalllaceaa.splitp
open pp range pv own
set_option linter.unusedVariables false

theorem set_getD_ne (zs : List Int) (k j : Nat) (p : Int) (h : j ≠ k) : (zs.set k p).getD j 0 = zs.getD j 0 := by
  rw [List.getD_eq_getElem?_getD, List.getElem?_set_ne (Ne.symm h), ← List.getD_eq_getElem?_getD]
theorem set_getD_eq (zs : List Int) (k : Nat) (p : Int) (h : k < zs.length) : (zs.set k p).getD k 0 = p := by
  rw [List.getD_eq_getElem?_getD, List.getElem?_set_self h]; rfl
theorem sumTo_set_out (zs : List Int) (k : Nat) (p : Int) (m : Nat) (h : m ≤ k) : sumTo (zs.set k p) m = sumTo zs m := by
  induction m with
  | zero => rfl
  | succ m ih => rw [sumTo_succ, sumTo_succ, ih (by omega), set_getD_ne _ _ _ _ (by omega)]
theorem sumTo_set_in (zs : List Int) (k : Nat) (p : Int) (m : Nat) (h : k < m) (hk : k < zs.length) : sumTo (zs.set k p) m = sumTo zs m - zs.getD k 0 + p := by
  induction m with
  | zero => omega
  | succ m ih =>
    rw [sumTo_succ, sumTo_succ]
    by_cases e : k = m
    · subst e; rw [sumTo_set_out _ _ _ _ (Nat.le_refl _), set_getD_eq _ _ _ hk]; omega
    · rw [ih (by omega), set_getD_ne _ _ _ _ (fun h => e h.symm)]; omega
theorem sumTo_snoc (zs : List Int) (x : Int) (m : Nat) (h : m ≤ zs.length) : sumTo (zs ++ [x]) m = sumTo zs m := by
  induction m with
  | zero => rfl
  | succ m ih => rw [sumTo_succ, sumTo_succ, ih (by omega), getD_snoc_lt _ _ _ _ (by omega)]
theorem sumZ_split (zs : List Int) (k : Nat) (x p : Int) (hk : k < zs.length) : sumZ ((zs ++ [x]).set k p) = sumZ zs + x - zs.getD k 0 + p := by
  unfold sumZ
  rw [List.length_set, sumTo_set_in _ _ _ _ (by simp; omega) (by simp; omega), getD_snoc_lt _ _ _ _ hk]
  simp only [List.length_append, List.length_singleton]
  rw [sumTo_succ, sumTo_snoc _ _ _ (Nat.le_refl _), getD_snoc_eq _ _ _ _ rfl]
theorem split_yes {ws : List Int} {q : Int} (h : voteB ws q = true) {k : Nat} (hk : k < ws.length) {p : Int} (h0 : 0 ≤ p) (h1 : p ≤ ws.getD k 0) (h8 : ws.length < 8) : voteB ((ws ++ [ws.getD k 0 - p]).set k p) q = true := by
  have hx := vote_at h k hk
  obtain ⟨a1, a2, a3, a4⟩ := (vote_iff _ _).1 h
  refine (vote_iff _ _).2 ⟨⟨by simp, by simp; omega⟩, all_true _ 0 _ (fun j hj => ?_), a3, ?_⟩
  · rw [inR_iff]
    by_cases e : j = k
    · subst e; rw [set_getD_eq _ _ _ (by simp; omega)]; omega
    · rw [set_getD_ne _ _ _ _ e]
      simp only [List.length_set, List.length_append, List.length_singleton] at hj
      by_cases e2 : j = ws.length
      · rw [getD_snoc_eq _ _ _ _ e2]; omega
      · rw [getD_snoc_lt _ _ _ _ (by omega)]; have := vote_at h j (by omega); omega
  · rw [sumZ_split _ _ _ _ hk]; omega
theorem split_no {ws : List Int} {q : Int} (h : voteB ws q = true) {k : Nat} (hk : k < ws.length) {p : Int} (hp : -9223372036854775808 ≤ p ∧ p ≤ 9223372036854775807) (hb : (decide (0 ≤ p) && decide (p ≤ ws.getD k 0)) = false ∨ 8 ≤ ws.length) : voteB ((ws ++ [IntKind.i64.wrap (ws.getD k 0 - p)]).set k p) q = false := by
  have hx := vote_at h k hk
  cases hv : voteB ((ws ++ [IntKind.i64.wrap (ws.getD k 0 - p)]).set k p) q
  · rfl
  · exfalso
    have a1 := ((vote_iff _ _).1 hv).1
    simp only [List.length_set, List.length_append, List.length_singleton] at a1
    have b1 := vote_at hv k (by simp; omega)
    have b2 := vote_at hv ws.length (by simp)
    rw [set_getD_eq _ _ _ (by simp; omega)] at b1
    rw [set_getD_ne _ _ _ _ (by omega), getD_snoc_eq _ _ _ _ rfl] at b2
    rcases hb with hb | hb
    · rw [show IntKind.i64.wrap (ws.getD k 0 - p) = ws.getD k 0 - p from IntWalk.i64_in _ (by omega)] at b2
      have : (decide (0 ≤ p) && decide (p ≤ ws.getD k 0)) = true := by rw [decide_eq_true (by omega), decide_eq_true (by omega)]; rfl
      rw [this] at hb; cases hb
    · omega
end Go.Proofs.Ytobdapalllaceaa.splitp
