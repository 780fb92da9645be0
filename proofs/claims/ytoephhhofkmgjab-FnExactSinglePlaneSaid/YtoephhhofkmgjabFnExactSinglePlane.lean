/- Proved: the law FnExactSinglePlane returns true at every input that the form speaks of, and leaves its arguments as they read; conditions: those of the given row, none of my own. -/
import Derived.Test.YtoephhhofkmgjabRows
import Derived.Test.YtoephhhofkmgjabOpen
import Derived.Test.YtoephhhofkmgjabSpG43
import Derived.Below
import Derived.Test.YtoephhhofkmgjabHead
namespace Go.Proofs.Ytoephhhofkmgjab.fnExactSinglePlane
open Go.ChangeShapes Go.WideShapes Go.ChangeAt Go.RowKit
open Go.ChangeMaps (open_string shut_string)
set_option linter.unusedVariables false

theorem own : ownKnob Try.prog.godebug = none := by kernel_rfl
theorem laidOut : laidOutB Try.prog = true := by kernel_rfl

set_option maxRecDepth 100000 in
theorem lifted (os : Os) (started : os.Started) (H : Type) (enc : TypeId × Value → H) :
    ReturnsInHanded {} Try.checked os 6 .any (Rows.fnExactSinglePlaneSpec.pre6 enc Try.prog Try.f6 Rows.fnExactSinglePlaneRow.domain false) (Rows.fnExactSinglePlaneSpec.post enc Try.prog Try.f6 false true false false) := by
  refine returnsInHanded_of_change (C := Try.checked) own started (by kernel_rfl) Try.func6
    (ChangeSpec.witness6 (enc := enc) (C := Try.checked) false ⟨#[], #[.agg #[.int .i64 0, .slice none 0 0]], []⟩ 8 (by kernel_rfl) (by kernel_rfl) (by kernel_rfl) (by kernel_rfl)) ?_
  intro W base args ds gs before hval0 hW hcnd _
  have hval : ∀ (j : Nat) t v, Try.f6.params[j]? = some t → args[j]? = some v → Value.okWide Try.prog W .any base t v := hval0
  have hW' := hW
  obtain ⟨p, q, hA0, hV, rfl, hfz, hnd⟩ := hW
  have hA : DataW.TrodAll enc Try.prog W 0 (fun _ => true) true Try.f6.params.toList args.toList ds p := hA0
  rw [Try.params6] at hA hval
  obtain ⟨v0, vs0, d0, ds0, p0, q0, hargs, rfl, rfl, h0, r0'⟩ := trodAll_cons hA
  obtain ⟨rfl, rfl, rfl⟩ := trodAll_nil r0'
  obtain rfl : args = #[v0] := by cases args; simp_all
  obtain ⟨rfl, rfl⟩ := trodVars_none hV
  have k0 := h0
  have lt0 : ∀ x ∈ p0, x.block < W.heap.size := by obtain ⟨m, hm⟩ := k0; exact DataW.trod_lt m _ _ _ hm
  obtain ⟨a0, ls0, cap0, t0', rfl, r0, z0, l0, c0, w0⟩ := grid.net Try.underlying43 (by kernel_rfl) (by kernel_rfl) rfl rfl Try.underlying3 Try.underlying41 (by kernel_rfl) Try.underlying107 Try.underlying136 (by kernel_rfl) rfl rfl (by kernel_rfl) (by kernel_rfl) Try.underlying22 Try.underlying3 (by kernel_rfl) Try.underlying3 (hval 0 43 v0 rfl rfl) h0
  clear hA0 hval0
  refine (fnExactSinglePlanel.law a0 ls0 cap0 t0' W r0 z0 l0 w0).mono fun e W' ⟨he, bel⟩ => ?_
  subst he
  exact ⟨_, rfl, _, _, _, [], _, [], hW', trodAll_mk1 (shut_bool Try.underlying4 _), (trodAll_cons_mk (Below.trod laidOut (by kernel_rfl) (of_decide_eq_true (by kernel_rfl)) k0 bel lt0) trodAll_mk0), rfl, bel.frame _, fun h => by cases h⟩

theorem joined : joinedFacts Try.pinned.checked.prog 6 Try.f6 Rows.fnExactSinglePlaneSpec Rows.fnExactSinglePlaneRow = true := by
  unfold joinedFacts
  simp only [Bool.and_eq_true]
  repeat' apply And.intro
  all_goals first | with_reducible exact head.may | with_reducible exact head.lifts _ rfl | with_reducible exact head.make _ rfl | kernel_rfl

theorem over : Rows.fnExactSinglePlaneRow.holds Try.pinned (OpenSpec.ofChange Rows.fnExactSinglePlaneSpec) :=
  OpenClaim.holds_of_wide 6 Try.f6 rfl rfl rfl rfl rfl rfl rfl ⟨rfl, rfl, rfl, rfl, rfl⟩ rfl rfl rfl rfl rfl (by kernel_rfl) Try.func6 joined
    (of_decide_eq_true (by kernel_rfl)) (by unfold Func.isWrapper; first | (rw [if_pos (by decide +kernel)]; kernel_rfl) | (rw [if_neg (by decide +kernel)]; exact ⟨rfl, rfl⟩))
    (fun os started H enc _ => lifted os started H enc)

theorem proved : Rows.FnExactSinglePlaneSaid := over
#print axioms proved
end Go.Proofs.Ytoephhhofkmgjab.fnExactSinglePlane
