/- The model's copy of any list, the empty one too. -/
import Derived.Test.YtkbcofgigfnfaabOwn1
import Derived.Test.YtkbcofgigfnfaabNums
import Derived.Lib.Walk
import Derived.Maps.AppendAt
namespace Go.Proofs.Ytkbcofgigfnfaab.own0
open Go.RowKit own pp nums own1
set_option linter.unusedVariables false
set_option linter.unusedSimpArgs false

theorem run_none {w : World} {base : Nat} {P : Program} (t ty e : TypeId) (i : TypeInfo) (size : Nat) (ht : P.underlying t = some (.slice e)) (hi : P.info? e = some i)
    (v : Value) (n : Nat) (xs : List Value) (hown : w.ownsRow base e size v n xs) (c : Nat) :
    (Builtin.append_ #[t, t] ty #[v, .slice none 0 c]).run P w = .ok v w := by
  rcases hown.2 with ⟨rfl, rfl⟩ | ⟨g, cap, cur, rfl, _, _, hnc, _⟩
  · simp [Builtin.append_, run_underlying ht, sizeOf, typeInfo, hi, Builtin.lenOf, Builtin.firstCells]
  · simp [Builtin.append_, run_underlying ht, sizeOf, typeInfo, hi, Builtin.lenOf, Builtin.firstCells, hnc, storeCells]
set_option maxRecDepth 100000 in
set_option maxHeartbeats 1500000 in
theorem spec_own0 (a : Option Addr) (zs : List Int) (c : Nat) (w : World) (hr : ints.Reads .i64 w a zs) (hn : zs.length ≤ 1048576) (h0 : zs = []) :
    Calls Try.prog 99 #[.slice a zs.length c] w (intfns.Made zs w) := by
  subst h0
  obtain ⟨i0, hi, hz0, hz1, hz2⟩ := info_parts infoInt
  have HO := Lib.hid (show (w.alloc (.cells #[] 3)).ownsRow w.heap.size 3 1 (.slice (some ⟨w.heap.size, 0, none⟩) 0 0) 0 [] from (own_empty w).1)
  have HB := Lib.hid (below_alloc w (.cells #[] 3))
  rcases a with _ | ad
  · clear hr
    go_enter Try.func99, Try.ntmps99
    go_wp2_with (at_builtin; refine Lib.wpList_append_run _ rfl _ _ _ _ rfl _ _ rfl rfl _ _ (run_none _ _ _ i0 1 Try.underlying23 hi _ _ _ HO.out _) ?_)
    go_ret
    exact ⟨_, rfl, OwnI.of HO.out, HB.out⟩
  · clear hr
    go_enter Try.func99, Try.ntmps99
    go_wp2_with (at_builtin; refine wpList_append_own _ rfl _ _ 23 rfl w.heap.size 3 i0 (.int .i64 0) 1 8 Try.underlying23 hi hz0 hz1 hz2 rfl (by decide) _ _ _ rfl HO.out ad 0 c [] rfl rfl (fun j u h => by simp at h) (fun u h => by simp at h) (by unfold maxLen; omega) (by omega) (by simp) ?_; intro v' w2 hown' hgrow _)
    go_ret
    exact ⟨_, rfl, OwnI.of hown', HB.out.grown hgrow (by simp) (fun g e => by have := (HO.out.lt g e).1; omega)⟩
theorem spec_owns (a : Option Addr) (zs : List Int) (c : Nat) (w : World) (hr : ints.Reads .i64 w a zs) (hn : zs.length ≤ 1048576) :
    Calls Try.prog 99 #[.slice a zs.length c] w (intfns.Made zs w) := by
  rcases Nat.eq_zero_or_pos zs.length with h | h
  · exact spec_own0 a zs c w hr hn (List.length_eq_zero_iff.1 h)
  · exact spec_own a zs c w hr hn h
end Go.Proofs.Ytkbcofgigfnfaab.own0
