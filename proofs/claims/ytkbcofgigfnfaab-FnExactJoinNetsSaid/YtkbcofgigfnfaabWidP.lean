/- Planes widened by zeros, and two nets side by side: plain lemmas. -/
import Derived.Test.YtkbcofgigfnfaabNetP
namespace Go.Proofs.Ytkbcofgigfnfaab.widp
open Go.RowKit own pp netp
set_option linter.unusedVariables false

theorem at_left {α : Type} (xs ys : List α) (d : α) (i : Nat) (h : i < xs.length) : (xs ++ ys).getD i d = xs.getD i d := by
  rw [List.getD_eq_getElem?_getD, List.getD_eq_getElem?_getD, List.getElem?_append_left h]
theorem at_right {α : Type} (xs ys : List α) (d : α) (i : Nat) (h : xs.length ≤ i) : (xs ++ ys).getD i d = ys.getD (i - xs.length) d := by
  rw [List.getD_eq_getElem?_getD, List.getD_eq_getElem?_getD, List.getElem?_append_right h]
def widJ (x y : Nat) (ps : List (List Int × Int)) : List (List Int × Int) := ps.map fun p => (List.replicate x 0 ++ p.1 ++ List.replicate y 0, p.2)
theorem wid_len (x y : Nat) (ps : List (List Int × Int)) : (widJ x y ps).length = ps.length := by simp [widJ]
theorem wid_getD (x y : Nat) (ps : List (List Int × Int)) (k : Nat) (h : k < ps.length) : (widJ x y ps).getD k ([], 0) = (List.replicate x 0 ++ (ps.getD k ([], 0)).1 ++ List.replicate y 0, (ps.getD k ([], 0)).2) := by
  simp [widJ, List.getD_eq_getElem?_getD, h]
theorem wid_take (x y : Nat) (ps : List (List Int × Int)) (k : Nat) (h : k < ps.length) : (widJ x y ps).take (k + 1) = (widJ x y ps).take k ++ [(List.replicate x 0 ++ (ps.getD k ([], 0)).1 ++ List.replicate y 0, (ps.getD k ([], 0)).2)] := by
  rw [← wid_getD x y ps k h, List.take_add_one]
  congr 1
  rw [List.getD_eq_getElem?_getD, List.getElem?_eq_getElem (by rw [wid_len]; exact h)]
  rfl
/-- How many the layer ahead of layer i has, none ahead of the first. -/
def prv (ls : List (List (List Int × Int))) (i : Nat) : Nat := if i = 0 then 0 else (ls.getD (i - 1) []).length
theorem prv_zero (ls : List (List (List Int × Int))) : prv ls 0 = 0 := rfl
theorem prv_succ (ls : List (List (List Int × Int))) (i : Nat) : prv ls (i + 1) = (ls.getD i []).length := rfl
def jnAt (ls ms : List (List (List Int × Int))) (i : Nat) : List (List Int × Int) := widJ 0 (prv ms i) (ls.getD i []) ++ widJ (prv ls i) 0 (ms.getD i [])
def jnT (ls ms : List (List (List Int × Int))) (k : Nat) : List (List (List Int × Int)) := (List.range k).map (jnAt ls ms)
theorem jnT_len (ls ms : List (List (List Int × Int))) (k : Nat) : (jnT ls ms k).length = k := by simp [jnT]
theorem jnT_succ (ls ms : List (List (List Int × Int))) (k : Nat) : jnT ls ms (k + 1) = jnT ls ms k ++ [jnAt ls ms k] := by simp [jnT, List.range_succ]
theorem jnT_at (ls ms : List (List (List Int × Int))) (k i : Nat) (h : i < k) : (jnT ls ms k).getD i [] = jnAt ls ms i := by simp [jnT, List.getD_eq_getElem?_getD, h]
theorem jnAt_len (ls ms : List (List (List Int × Int))) (i : Nat) : (jnAt ls ms i).length = (ls.getD i []).length + (ms.getD i []).length := by simp [jnAt, wid_len]
/-- All layers of both together have at most four gates. -/
def fitJ (ls ms : List (List (List Int × Int))) : Bool := (List.range ls.length).all fun i => decide ((ls.getD i []).length + (ms.getD i []).length ≤ 4)
theorem fitJ_iff (ls ms : List (List (List Int × Int))) : fitJ ls ms = true ↔ ∀ i, i < ls.length → (ls.getD i []).length + (ms.getD i []).length ≤ 4 := by simp [fitJ]
theorem nums_wid (x y : Nat) (zs : List Int) : numsB 99 (List.replicate x 0 ++ zs ++ List.replicate y 0) = numsB 99 zs := by
  have h0 : ∀ n : Nat, numsB 99 (List.replicate n 0) = true := fun n => by
    unfold numsB
    rw [List.all_eq_true]
    intro z hz
    rw [List.eq_of_mem_replicate hz]; rfl
  have ha : ∀ a b : List Int, numsB 99 (a ++ b) = (numsB 99 a && numsB 99 b) := fun a b => by simp [numsB]
  rw [ha, ha, h0, h0, Bool.true_and, Bool.and_true]
theorem gate_wid (x y g : Nat) (p : List Int × Int) (h : gateB g p = true) (h4 : x + g + y ≤ 4) : gateB (x + g + y) (List.replicate x 0 ++ p.1 ++ List.replicate y 0, p.2) = true := by
  obtain ⟨h1, h2⟩ := (gateB_iff _ _).1 h
  obtain ⟨a1, a2, a3, a4⟩ := (planeB_iff _ _).1 h1
  have hl : (List.replicate x (0 : Int) ++ p.1 ++ List.replicate y 0).length = x + g + y := by simp; omega
  exact (gateB_iff _ _).2 ⟨(planeB_iff _ _).2 ⟨by rw [hl]; omega, by rw [hl]; exact h4, by rw [nums_wid]; exact a3, a4⟩, hl⟩
theorem net_jn {n : Int} {ls ms : List (List (List Int × Int))} (h : netB n ls = true) (h' : netB n ms = true) (hl : ls.length = ms.length) : netB n (jnT ls ms ls.length) = fitJ ls ms := by
  obtain ⟨a1, a2, a3, a4, a5⟩ := (netB_iff _ _).1 h
  obtain ⟨b1, b2, b3, b4, b5⟩ := (netB_iff _ _).1 h'
  cases hf : fitJ ls ms
  · cases e : netB n (jnT ls ms ls.length)
    · rfl
    · exfalso
      have : fitJ ls ms = true := (fitJ_iff _ _).2 fun i hi => by
        have := (net_lay e i (by rw [jnT_len]; exact hi)).2
        rwa [jnT_at _ _ _ _ hi, jnAt_len] at this
      rw [hf] at this; cases this
  · have hfit := (fitJ_iff _ _).1 hf
    refine (netB_iff _ _).2 ⟨a1, a2, by rw [jnT_len]; exact a3, by rw [jnT_len]; exact a4, fun i hi => ?_⟩
    rw [jnT_len] at hi
    have hla := net_lay h i hi
    have hlb := net_lay h' i (by omega)
    rw [jnT_at _ _ _ _ hi]
    -- what the layers before give
    have hg : giv n.toNat (jnT ls ms ls.length) i = giv n.toNat ls i + prv ms i ∧ giv n.toNat (jnT ls ms ls.length) i = prv ls i + giv n.toNat ms i ∧ giv n.toNat (jnT ls ms ls.length) i ≤ 4 := by
      cases i with
      | zero =>
        rw [giv_zero, giv_zero, giv_zero, prv_zero, prv_zero]
        omega
      | succ i =>
        rw [giv_succ, giv_succ, giv_succ, jnT_at _ _ _ _ (by omega), jnAt_len]
        have := hfit i (by omega)
        rw [prv_succ, prv_succ]
        exact ⟨rfl, rfl, this⟩
    obtain ⟨g1, g2, g3⟩ := hg
    refine (layB_iff _ _).2 ⟨by rw [jnAt_len]; omega, by rw [jnAt_len]; exact hfit i hi, fun k hk => ?_⟩
    rw [jnAt_len] at hk
    by_cases hk2 : k < (ls.getD i []).length
    · have e : (jnAt ls ms i).getD k ([], 0) = (widJ 0 (prv ms i) (ls.getD i [])).getD k ([], 0) := by
        exact at_left _ _ _ _ (by rw [wid_len]; exact hk2)
      rw [e, wid_getD _ _ _ _ hk2]
      have := gate_wid 0 (prv ms i) (giv n.toNat ls i) _ (net_gate h i hi k hk2) (by omega)
      rwa [Nat.zero_add, ← g1] at this
    · have hk3 : k - (ls.getD i []).length < (ms.getD i []).length := by omega
      have e : (jnAt ls ms i).getD k ([], 0) = (widJ (prv ls i) 0 (ms.getD i [])).getD (k - (ls.getD i []).length) ([], 0) := by
        have := at_right (widJ 0 (prv ms i) (ls.getD i [])) (widJ (prv ls i) 0 (ms.getD i [])) ([], 0) k (by rw [wid_len]; omega)
        rwa [wid_len] at this
      rw [e, wid_getD _ _ _ _ hk3]
      have := gate_wid (prv ls i) 0 (giv n.toNat ms i) _ (net_gate h' i (by omega) _ hk3) (by omega)
      rwa [Nat.add_zero, ← g2] at this
/-- What two nets side by side must keep. -/
def jnB (n : Int) (ls : List (List (List Int × Int))) (n' : Int) (ms : List (List (List Int × Int))) : Bool := netB n ls && netB n' ms && decide (n = n') && decide (ls.length = ms.length) && fitJ ls ms
theorem jnB_iff (n : Int) (ls : List (List (List Int × Int))) (n' : Int) (ms : List (List (List Int × Int))) : jnB n ls n' ms = true ↔ netB n ls = true ∧ netB n' ms = true ∧ n = n' ∧ ls.length = ms.length ∧ fitJ ls ms = true := by simp [jnB, and_assoc]
theorem prv_le {n : Int} {ls : List (List (List Int × Int))} (h : netB n ls = true) (i : Nat) (hi : i ≤ ls.length) : prv ls i ≤ 4 := by
  cases i with
  | zero => simp [prv]
  | succ i => rw [prv_succ]; exact (net_lay h i (by omega)).2
theorem gate_le {n : Int} {ls : List (List (List Int × Int))} (h : netB n ls = true) (i : Nat) (hi : i < ls.length) (p : List Int × Int) (hp : p ∈ ls.getD i []) : p.1.length ≤ 4 := by
  obtain ⟨k, hk, e⟩ := List.getElem_of_mem hp
  have := net_gate h i hi k hk
  rw [List.getD_eq_getElem?_getD (l := ls.getD i []), List.getElem?_eq_getElem hk, Option.getD_some, e] at this
  exact ((planeB_iff _ _).1 ((gateB_iff _ _).1 this).1).2.1
theorem jn_small {n : Int} {ls ms : List (List (List Int × Int))} (h : netB n ls = true) (h' : netB n ms = true) (hl : ls.length = ms.length) : (jnT ls ms ls.length).length ≤ 6 ∧ ∀ x ∈ jnT ls ms ls.length, x.length ≤ 8 ∧ ∀ y ∈ x, y.1.length ≤ 12 := by
  refine ⟨by rw [jnT_len]; exact (net_len h).2, fun x hx => ?_⟩
  obtain ⟨i, hi, rfl⟩ := List.mem_map.1 hx
  rw [List.mem_range] at hi
  refine ⟨by rw [jnAt_len]; have := net_lay h i hi; have := net_lay h' i (by omega); omega, fun y hy => ?_⟩
  have p1 := prv_le h i (by omega)
  have p2 := prv_le h' i (by omega)
  rcases List.mem_append.1 hy with hy | hy
  · obtain ⟨p, hp, rfl⟩ := List.mem_map.1 hy
    have := gate_le h i hi p hp
    simp; omega
  · obtain ⟨p, hp, rfl⟩ := List.mem_map.1 hy
    have := gate_le h' i (by omega) p hp
    simp; omega
end Go.Proofs.Ytkbcofgigfnfaab.widp
