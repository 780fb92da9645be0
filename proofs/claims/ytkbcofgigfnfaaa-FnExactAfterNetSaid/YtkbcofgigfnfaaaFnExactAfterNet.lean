/- Proved: the law FnExactAfterNet returns true at every input that the form speaks of, and leaves its arguments as they read; conditions: those of the given row, none of my own. -/
import Derived.Test.YtkbcofgigfnfaaaRows
import Derived.Test.YtkbcofgigfnfaaaOpen
import Derived.Test.YtkbcofgigfnfaaaNetOpen
import Derived.Test.YtkbcofgigfnfaaaLawAfterNet
import Derived.Below
import Derived.Test.YtkbcofgigfnfaaaHead
namespace Go.Proofs.Ytkbcofgigfnfaaa.fnExactAfterNet
open Go.ChangeShapes Go.WideShapes Go.ChangeAt Go.RowKit
open Go.ChangeMaps (open_string shut_string)
set_option linter.unusedVariables false

theorem own : ownKnob Try.prog.godebug = none := by kernel_rfl
theorem laidOut : laidOutB Try.prog = true := by kernel_rfl

set_option maxRecDepth 100000 in
theorem lifted (os : Os) (started : os.Started) (H : Type) (enc : TypeId × Value → H) :
    ReturnsInHanded {} Try.checked os 14 .any (Rows.fnExactAfterNetSpec.pre6 enc Try.prog Try.f14 Rows.fnExactAfterNetRow.domain false) (Rows.fnExactAfterNetSpec.post enc Try.prog Try.f14 false true false false) := by
  refine returnsInHanded_of_change (C := Try.checked) own started (by kernel_rfl) Try.func14
    (ChangeSpec.witness6 (enc := enc) (C := Try.checked) false ⟨#[], #[.agg #[.int .i64 0, .slice none 0 0], .agg #[.int .i64 0, .slice none 0 0]], []⟩ 8 (by kernel_rfl) (by kernel_rfl) (by kernel_rfl) (by kernel_rfl)) ?_
  intro W base args ds gs before hval0 hW hcnd _
  have hval : ∀ (j : Nat) t v, Try.f14.params[j]? = some t → args[j]? = some v → Value.okWide Try.prog W .any base t v := hval0
  have hW' := hW
  obtain ⟨p, q, hA0, hV, rfl, hfz, hnd⟩ := hW
  have hA : DataW.TrodAll enc Try.prog W 0 (fun _ => true) true Try.f14.params.toList args.toList ds p := hA0
  rw [Try.params14] at hA hval
  obtain ⟨v0, vs0, d0, ds0, p0, q0, hargs, rfl, rfl, h0, r0'⟩ := trodAll_cons hA
  obtain ⟨v1, vs1, d1, ds1, p1, q1, rfl, rfl, rfl, h1, r1'⟩ := trodAll_cons r0'
  obtain ⟨rfl, rfl, rfl⟩ := trodAll_nil r1'
  obtain rfl : args = #[v0, v1] := by cases args; simp_all
  obtain ⟨rfl, rfl⟩ := trodVars_none hV
  have k0 := h0
  have lt0 : ∀ x ∈ p0, x.block < W.heap.size := by obtain ⟨m, hm⟩ := k0; exact DataW.trod_lt m _ _ _ hm
  have k1 := h1
  have lt1 : ∀ x ∈ p1, x.block < W.heap.size := by obtain ⟨m, hm⟩ := k1; exact DataW.trod_lt m _ _ _ hm
  obtain ⟨a0, ls0, cap0, t0', rfl, r0, z0, l0, c0, w0⟩ := grid.net Try.underlying61 (by kernel_rfl) (by kernel_rfl) rfl rfl Try.underlying3 Try.underlying59 (by kernel_rfl) Try.underlying120 Try.underlying134 (by kernel_rfl) rfl rfl (by kernel_rfl) (by kernel_rfl) Try.underlying23 Try.underlying3 (by kernel_rfl) Try.underlying3 (hval 0 61 v0 rfl rfl) h0
  obtain ⟨a1, ls1, cap1, t1', rfl, r1, z1, l1, c1, w1⟩ := grid.net Try.underlying61 (by kernel_rfl) (by kernel_rfl) rfl rfl Try.underlying3 Try.underlying59 (by kernel_rfl) Try.underlying120 Try.underlying134 (by kernel_rfl) rfl rfl (by kernel_rfl) (by kernel_rfl) Try.underlying23 Try.underlying3 (by kernel_rfl) Try.underlying3 (hval 1 61 v1 rfl rfl) h1
  clear hA0 hval0
  refine (fnExactAfterNetl.law a0 ls0 cap0 t0' a1 ls1 cap1 t1' W r0 z0 l0 w0 r1 z1 l1 w1).mono fun e W' ⟨he, bel⟩ => ?_
  subst he
  exact ⟨_, rfl, _, _, _, [], _, [], hW', trodAll_mk1 (shut_bool Try.underlying4 _), (trodAll_cons_mk (Below.trod laidOut (by kernel_rfl) (of_decide_eq_true (by kernel_rfl)) k0 bel lt0) (trodAll_cons_mk (Below.trod laidOut (by kernel_rfl) (of_decide_eq_true (by kernel_rfl)) k1 bel lt1) trodAll_mk0)), rfl, bel.frame _, fun h => by cases h⟩

theorem joined : joinedFacts Try.pinned.checked.prog 14 Try.f14 Rows.fnExactAfterNetSpec Rows.fnExactAfterNetRow = true := by
  unfold joinedFacts
  simp only [Bool.and_eq_true]
  repeat' apply And.intro
  all_goals first | with_reducible exact head.may | with_reducible exact head.lifts _ rfl | with_reducible exact head.make _ rfl | kernel_rfl

theorem over : Rows.fnExactAfterNetRow.holds Try.pinned (OpenSpec.ofChange Rows.fnExactAfterNetSpec) :=
  OpenClaim.holds_of_wide 14 Try.f14 rfl rfl rfl rfl rfl rfl rfl ⟨rfl, rfl, rfl, rfl, rfl⟩ rfl rfl rfl rfl rfl (by kernel_rfl) Try.func14 joined
    (of_decide_eq_true (by kernel_rfl)) (by unfold Func.isWrapper; first | (rw [if_pos (by decide +kernel)]; kernel_rfl) | (rw [if_neg (by decide +kernel)]; exact ⟨rfl, rfl⟩))
    (fun os started H enc _ => lifted os started H enc)

theorem proved : Rows.FnExactAfterNetSaid := over
#print axioms proved
end Go.Proofs.Ytkbcofgigfnfaaa.fnExactAfterNet
