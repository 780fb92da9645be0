/- The walks of the model's and the program's lists of sides. -/
import Derived.Test.YtkbcofgigfnfaaaSamplesT
import Derived.Test.YtkbcofgigfnfaaaDots
import Derived.Test.YtkbcofgigfnfaaaBoth
import Derived.Deep.AppendLies
namespace Go.Proofs.Ytkbcofgigfnfaaa.sides
open Go.RowKit own pp nums samplesv dots
set_option linter.unusedVariables false

theorem infoInt : (Try.prog.info? 3).map (fun i => (i.zero, i.size, i.bytes)) = some (some (.int .i64 0), 1, 8) := by kernel_rfl

/-- The sides of the first k points. -/
def sidesTo (rows : List (List Int)) (ws : List Int) (b : Int) (k : Nat) : List Int := (rows.take k).map (side ws b)
theorem sidesTo_length (rows : List (List Int)) (ws : List Int) (b : Int) (k : Nat) (h : k ≤ rows.length) : (sidesTo rows ws b k).length = k := by simp [sidesTo]; omega
theorem sidesTo_succ (rows : List (List Int)) (ws : List Int) (b : Int) (k : Nat) (h : k < rows.length) : sidesTo rows ws b (k + 1) = sidesTo rows ws b k ++ [side ws b (rows.getD k [])] := by
  unfold sidesTo
  rw [take_snoc_getD rows k h, List.map_append]; rfl

/-- All rows are points that a plane's weights fit. -/
def RowsFit (rows : List (List Int)) (ws : List Int) : Prop := ∀ k, k < rows.length → (rows.getD k []).length = ws.length ∧ Small ws (rows.getD k [])

theorem fit_of {rows : List (List Int)} {zs ws : List Int} {b : Int} (h : both.bothB rows zs ws b = true) : RowsFit rows ws ∧ rows.length ≤ 16 := by
  obtain ⟨h1, h2, h3⟩ := (both.bothB_iff _ _ _ _).1 h
  obtain ⟨s1, s2, s3, s4⟩ := (sampleB_iff _ _).1 h1
  refine ⟨fun k hk => ?_, s1⟩
  have hr := all_at _ [] rows s4 k hk
  simp only [Bool.and_eq_true, decide_eq_true_eq] at hr
  have hl : (rows.getD k []).length = ws.length := by rcases h3 with h3 | h3 <;> omega
  exact ⟨hl, small_of ((planeB_iff _ _).1 h2).2.2.1 ((pointB_iff _).1 hr.1).2.2 (by decide) (by omega)⟩

end Go.Proofs.Ytkbcofgigfnfaaa.sides
