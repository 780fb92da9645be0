/- Lists made by a function of the place: plain lemmas, no condition. -/
import Derived.Test.YtkbcofgigfnfaabNums
import Derived.Test.YtkbcofgigfnfaabOwnG
import Derived.OwnWalk
import Derived.RangeFuncBox
namespace Go.Proofs.Ytkbcofgigfnfaab.mk
open Go.RowKit own pp nums
set_option linter.unusedVariables false

theorem infoInt : (Try.prog.info? 3).map (fun i => (i.zero, i.size, i.bytes)) = some (some (.int .i64 0), 1, 8) := by kernel_rfl
/-- f 0, .., f (m - 1). -/
def mk (f : Nat → Int) (m : Nat) : List Int := (List.range m).map f
theorem mk_length (f : Nat → Int) (m : Nat) : (mk f m).length = m := by simp [mk]
theorem mk_succ (f : Nat → Int) (m : Nat) : mk f (m + 1) = mk f m ++ [f m] := by simp [mk, List.range_succ]
theorem mk_getD (f : Nat → Int) (m k : Nat) (h : k < m) : (mk f m).getD k 0 = f k := by simp [mk, List.getD_eq_getElem?_getD, h]
theorem mk_congr {f g : Nat → Int} {m : Nat} (h : ∀ k, k < m → f k = g k) : mk f m = mk g m := by
  unfold mk
  exact List.map_congr_left fun k hk => h k (List.mem_range.1 hk)
theorem mk_getDs (zs : List Int) : mk (fun k => zs.getD k 0) zs.length = zs := by
  apply List.ext_getElem (by simp [mk])
  intro i h1 h2
  simp [mk, List.getD_eq_getElem?_getD, h2]
/-- The first k of m made, then zeros. -/
def fil (f : Nat → Int) (m k : Nat) : List Value := (mk f k).map (Value.int .i64) ++ List.replicate (m - k) (.int .i64 0)
theorem fil_zero (f : Nat → Int) (m : Nat) : fil f m 0 = List.replicate m (.int .i64 0) := by simp [fil, mk]
theorem fil_all (f : Nat → Int) (m : Nat) : fil f m m = (mk f m).map (Value.int .i64) := by simp [fil]
theorem fil_succ (f : Nat → Int) (m k : Nat) (h : k < m) : (fil f m k).set k (.int .i64 (f k)) = fil f m (k + 1) := by
  unfold fil
  rw [List.set_append, if_neg (by simp [mk_length]), show m - k = (m - (k + 1)) + 1 by omega, List.replicate_succ, List.length_map, mk_length, Nat.sub_self, List.set_cons_zero, mk_succ, List.map_append, List.append_assoc]
  rfl
theorem fil_at (f : Nat → Int) (m k : Nat) (h : k < m) : (fil f m k)[k]? = some (.int .i64 0) := by
  unfold fil
  rw [List.getElem?_append_right (by simp [mk_length]), List.getElem?_replicate, if_pos (by simp [mk_length]; omega)]
theorem pow4 {n : Nat} (h : n ≤ 4) : 1 ≤ 2 ^ n ∧ 2 ^ n ≤ 16 := by
  have h5 : n = 0 ∨ n = 1 ∨ n = 2 ∨ n = 3 ∨ n = 4 := by omega
  rcases h5 with rfl | rfl | rfl | rfl | rfl <;> decide
end Go.Proofs.Ytkbcofgigfnfaab.mk
