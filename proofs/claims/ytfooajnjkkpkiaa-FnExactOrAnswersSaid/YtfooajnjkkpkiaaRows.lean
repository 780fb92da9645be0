/-
  No cell of these rows narrows 'for every input' (looked for: loops, veiled, ifaces, maps, wideKeys, modest, calm, conditions, laid).
  DERIVED. THE GIVEN ROWS OF THIS SEAT. 15 by the template 'for every input the law returns true; each argument reads behind the call as it read before'; 0 by the template 'total and deterministic' (their statements: YtfooajnjkkpkiaaTotals.lean).
  GIVEN WITH THE SEED: the statements are not yours to turn. If you find one false, say at which input.
  Laid BY PROGRAM, IN A SANDBOX (cutbox-rows.mjs): the forced cells as the released guide's own fill.sh prints them over the translation 1060f726f3e1f442… (all of the seat's roots in one cut). By AI agents, Wed Nov 11 2026. No macro, syntax, notation, axiom, sorry.
-/
import Derived.Test.YtfooajnjkkpkiaaChecked
import GoSem.Claim
import GoSem.ClaimJoined
import GoSem.ClaimMapViews
import Derived.JoinedTies
import Derived.KernelRfl
namespace Go.Proofs.Ytfooajnjkkpkiaa
/- THE CELL 'sum', in the pinned program and in every row, IS THE sha256 OF THE DUMP (.gsa) THAT YtfooajnjkkpkiaaProg.lean LOADS. Nothing in Lean hashes anything: it is a label: what it is worth is what the hold of that sum in a sandbox is worth. -/
noncomputable def Try.pinned : Pinned := { name := "ytfooajnjkkpkiaa", sum := "1060f726f3e1f4420e3741b684382a79f16d5cfcc0f172b28e14608101925527", checked := Try.checked }
namespace Rows
def none {H : Type} : Left H := { results := [], args := [] }

/-- 'laws.FnPerceptrons': WHATEVER THE INPUT: true; the input reads as it did. -/
def fnPerceptronsSpec : ChangeSpec := { name := "fnPerceptrons", fn := fun _ => fun
  | [d] => { results := [.lit (.bool true)], args := [d] }
  | _ => none }
def fnPerceptronsRow : OpenClaim := { program := "ytfooajnjkkpkiaa", sum := "1060f726f3e1f4420e3741b684382a79f16d5cfcc0f172b28e14608101925527", func := "loop.example/g01135/laws.FnPerceptrons", spec := "fnPerceptrons", unfollowed := true, recurses := true, apart := false }
def FnPerceptronsSaid : Prop := fnPerceptronsRow.holds Try.pinned (OpenSpec.ofChange fnPerceptronsSpec)

/-- ITS FALSE NEIGHBOUR: 'it returns false'. Refute it at one input. -/
def fnPerceptronsWrong : ChangeSpec := { name := "fnPerceptrons", fn := fun _ => fun
  | [d] => { results := [.lit (.bool false)], args := [d] }
  | _ => none }
def FnPerceptronsWrongFalsely : Prop := fnPerceptronsRow.holds Try.pinned (OpenSpec.ofChange fnPerceptronsWrong)

/-- 'laws.FnWinnow': WHATEVER THE INPUT: true; the input reads as it did. -/
def fnWinnowSpec : ChangeSpec := { name := "fnWinnow", fn := fun _ => fun
  | [d] => { results := [.lit (.bool true)], args := [d] }
  | _ => none }
def fnWinnowRow : OpenClaim := { program := "ytfooajnjkkpkiaa", sum := "1060f726f3e1f4420e3741b684382a79f16d5cfcc0f172b28e14608101925527", func := "loop.example/g01135/laws.FnWinnow", spec := "fnWinnow", unfollowed := true, recurses := true, apart := false }
def FnWinnowSaid : Prop := fnWinnowRow.holds Try.pinned (OpenSpec.ofChange fnWinnowSpec)

/-- ITS FALSE NEIGHBOUR: 'it returns false'. Refute it at one input. -/
def fnWinnowWrong : ChangeSpec := { name := "fnWinnow", fn := fun _ => fun
  | [d] => { results := [.lit (.bool false)], args := [d] }
  | _ => none }
def FnWinnowWrongFalsely : Prop := fnWinnowRow.holds Try.pinned (OpenSpec.ofChange fnWinnowWrong)

/-- 'laws.FnExactStepPerceptron': WHATEVER THE INPUT: true; the input reads as it did. -/
def fnExactStepPerceptronSpec : ChangeSpec := { name := "fnExactStepPerceptron", fn := fun _ => fun
  | [d1, d2, d3] => { results := [.lit (.bool true)], args := [d1, d2, d3] }
  | _ => none }
def fnExactStepPerceptronRow : OpenClaim := { program := "ytfooajnjkkpkiaa", sum := "1060f726f3e1f4420e3741b684382a79f16d5cfcc0f172b28e14608101925527", func := "loop.example/g01135/laws.FnExactStepPerceptron", spec := "fnExactStepPerceptron", apart := false }
def FnExactStepPerceptronSaid : Prop := fnExactStepPerceptronRow.holds Try.pinned (OpenSpec.ofChange fnExactStepPerceptronSpec)

/-- ITS FALSE NEIGHBOUR: 'it returns false'. Refute it at one input. -/
def fnExactStepPerceptronWrong : ChangeSpec := { name := "fnExactStepPerceptron", fn := fun _ => fun
  | [d1, d2, d3] => { results := [.lit (.bool false)], args := [d1, d2, d3] }
  | _ => none }
def FnExactStepPerceptronWrongFalsely : Prop := fnExactStepPerceptronRow.holds Try.pinned (OpenSpec.ofChange fnExactStepPerceptronWrong)

/-- 'laws.FnExactRunPerceptron': WHATEVER THE INPUT: true; the input reads as it did. -/
def fnExactRunPerceptronSpec : ChangeSpec := { name := "fnExactRunPerceptron", fn := fun _ => fun
  | [d1, d2] => { results := [.lit (.bool true)], args := [d1, d2] }
  | _ => none }
def fnExactRunPerceptronRow : OpenClaim := { program := "ytfooajnjkkpkiaa", sum := "1060f726f3e1f4420e3741b684382a79f16d5cfcc0f172b28e14608101925527", func := "loop.example/g01135/laws.FnExactRunPerceptron", spec := "fnExactRunPerceptron", unfollowed := true, recurses := true, apart := false }
def FnExactRunPerceptronSaid : Prop := fnExactRunPerceptronRow.holds Try.pinned (OpenSpec.ofChange fnExactRunPerceptronSpec)

/-- ITS FALSE NEIGHBOUR: 'it returns false'. Refute it at one input. -/
def fnExactRunPerceptronWrong : ChangeSpec := { name := "fnExactRunPerceptron", fn := fun _ => fun
  | [d1, d2] => { results := [.lit (.bool false)], args := [d1, d2] }
  | _ => none }
def FnExactRunPerceptronWrongFalsely : Prop := fnExactRunPerceptronRow.holds Try.pinned (OpenSpec.ofChange fnExactRunPerceptronWrong)

/-- 'laws.FnExactPerceptronTrace': WHATEVER THE INPUT: true; the input reads as it did. -/
def fnExactPerceptronTraceSpec : ChangeSpec := { name := "fnExactPerceptronTrace", fn := fun _ => fun
  | [d1, d2] => { results := [.lit (.bool true)], args := [d1, d2] }
  | _ => none }
def fnExactPerceptronTraceRow : OpenClaim := { program := "ytfooajnjkkpkiaa", sum := "1060f726f3e1f4420e3741b684382a79f16d5cfcc0f172b28e14608101925527", func := "loop.example/g01135/laws.FnExactPerceptronTrace", spec := "fnExactPerceptronTrace", unfollowed := true, recurses := true, apart := false }
def FnExactPerceptronTraceSaid : Prop := fnExactPerceptronTraceRow.holds Try.pinned (OpenSpec.ofChange fnExactPerceptronTraceSpec)

/-- ITS FALSE NEIGHBOUR: 'it returns false'. Refute it at one input. -/
def fnExactPerceptronTraceWrong : ChangeSpec := { name := "fnExactPerceptronTrace", fn := fun _ => fun
  | [d1, d2] => { results := [.lit (.bool false)], args := [d1, d2] }
  | _ => none }
def FnExactPerceptronTraceWrongFalsely : Prop := fnExactPerceptronTraceRow.holds Try.pinned (OpenSpec.ofChange fnExactPerceptronTraceWrong)

/-- 'laws.FnExactDualCounts': WHATEVER THE INPUT: true; the input reads as it did. -/
def fnExactDualCountsSpec : ChangeSpec := { name := "fnExactDualCounts", fn := fun _ => fun
  | [d1, d2] => { results := [.lit (.bool true)], args := [d1, d2] }
  | _ => none }
def fnExactDualCountsRow : OpenClaim := { program := "ytfooajnjkkpkiaa", sum := "1060f726f3e1f4420e3741b684382a79f16d5cfcc0f172b28e14608101925527", func := "loop.example/g01135/laws.FnExactDualCounts", spec := "fnExactDualCounts", unfollowed := true, recurses := true, apart := false }
def FnExactDualCountsSaid : Prop := fnExactDualCountsRow.holds Try.pinned (OpenSpec.ofChange fnExactDualCountsSpec)

/-- ITS FALSE NEIGHBOUR: 'it returns false'. Refute it at one input. -/
def fnExactDualCountsWrong : ChangeSpec := { name := "fnExactDualCounts", fn := fun _ => fun
  | [d1, d2] => { results := [.lit (.bool false)], args := [d1, d2] }
  | _ => none }
def FnExactDualCountsWrongFalsely : Prop := fnExactDualCountsRow.holds Try.pinned (OpenSpec.ofChange fnExactDualCountsWrong)

/-- 'laws.FnExactPlaneOfCounts': WHATEVER THE INPUT: true; the input reads as it did. -/
def fnExactPlaneOfCountsSpec : ChangeSpec := { name := "fnExactPlaneOfCounts", fn := fun _ => fun
  | [d1, d2] => { results := [.lit (.bool true)], args := [d1, d2] }
  | _ => none }
def fnExactPlaneOfCountsRow : OpenClaim := { program := "ytfooajnjkkpkiaa", sum := "1060f726f3e1f4420e3741b684382a79f16d5cfcc0f172b28e14608101925527", func := "loop.example/g01135/laws.FnExactPlaneOfCounts", spec := "fnExactPlaneOfCounts", unfollowed := true, recurses := true, apart := false }
def FnExactPlaneOfCountsSaid : Prop := fnExactPlaneOfCountsRow.holds Try.pinned (OpenSpec.ofChange fnExactPlaneOfCountsSpec)

/-- ITS FALSE NEIGHBOUR: 'it returns false'. Refute it at one input. -/
def fnExactPlaneOfCountsWrong : ChangeSpec := { name := "fnExactPlaneOfCounts", fn := fun _ => fun
  | [d1, d2] => { results := [.lit (.bool false)], args := [d1, d2] }
  | _ => none }
def FnExactPlaneOfCountsWrongFalsely : Prop := fnExactPlaneOfCountsRow.holds Try.pinned (OpenSpec.ofChange fnExactPlaneOfCountsWrong)

/-- 'laws.FnExactMarginOf': WHATEVER THE INPUT: true; the input reads as it did. -/
def fnExactMarginOfSpec : ChangeSpec := { name := "fnExactMarginOf", fn := fun _ => fun
  | [d1, d2] => { results := [.lit (.bool true)], args := [d1, d2] }
  | _ => none }
def fnExactMarginOfRow : OpenClaim := { program := "ytfooajnjkkpkiaa", sum := "1060f726f3e1f4420e3741b684382a79f16d5cfcc0f172b28e14608101925527", func := "loop.example/g01135/laws.FnExactMarginOf", spec := "fnExactMarginOf", apart := false }
def FnExactMarginOfSaid : Prop := fnExactMarginOfRow.holds Try.pinned (OpenSpec.ofChange fnExactMarginOfSpec)

/-- ITS FALSE NEIGHBOUR: 'it returns false'. Refute it at one input. -/
def fnExactMarginOfWrong : ChangeSpec := { name := "fnExactMarginOf", fn := fun _ => fun
  | [d1, d2] => { results := [.lit (.bool false)], args := [d1, d2] }
  | _ => none }
def FnExactMarginOfWrongFalsely : Prop := fnExactMarginOfRow.holds Try.pinned (OpenSpec.ofChange fnExactMarginOfWrong)

/-- 'laws.FnExactMistakeBound': WHATEVER THE INPUT: true; the input reads as it did. -/
def fnExactMistakeBoundSpec : ChangeSpec := { name := "fnExactMistakeBound", fn := fun _ => fun
  | [d1, d2] => { results := [.lit (.bool true)], args := [d1, d2] }
  | _ => none }
def fnExactMistakeBoundRow : OpenClaim := { program := "ytfooajnjkkpkiaa", sum := "1060f726f3e1f4420e3741b684382a79f16d5cfcc0f172b28e14608101925527", func := "loop.example/g01135/laws.FnExactMistakeBound", spec := "fnExactMistakeBound", apart := false }
def FnExactMistakeBoundSaid : Prop := fnExactMistakeBoundRow.holds Try.pinned (OpenSpec.ofChange fnExactMistakeBoundSpec)

/-- ITS FALSE NEIGHBOUR: 'it returns false'. Refute it at one input. -/
def fnExactMistakeBoundWrong : ChangeSpec := { name := "fnExactMistakeBound", fn := fun _ => fun
  | [d1, d2] => { results := [.lit (.bool false)], args := [d1, d2] }
  | _ => none }
def FnExactMistakeBoundWrongFalsely : Prop := fnExactMistakeBoundRow.holds Try.pinned (OpenSpec.ofChange fnExactMistakeBoundWrong)

/-- 'laws.FnExactPocketPlane': WHATEVER THE INPUT: true; the input reads as it did. -/
def fnExactPocketPlaneSpec : ChangeSpec := { name := "fnExactPocketPlane", fn := fun _ => fun
  | [d1, d2] => { results := [.lit (.bool true)], args := [d1, d2] }
  | _ => none }
def fnExactPocketPlaneRow : OpenClaim := { program := "ytfooajnjkkpkiaa", sum := "1060f726f3e1f4420e3741b684382a79f16d5cfcc0f172b28e14608101925527", func := "loop.example/g01135/laws.FnExactPocketPlane", spec := "fnExactPocketPlane", unfollowed := true, recurses := true, apart := false }
def FnExactPocketPlaneSaid : Prop := fnExactPocketPlaneRow.holds Try.pinned (OpenSpec.ofChange fnExactPocketPlaneSpec)

/-- ITS FALSE NEIGHBOUR: 'it returns false'. Refute it at one input. -/
def fnExactPocketPlaneWrong : ChangeSpec := { name := "fnExactPocketPlane", fn := fun _ => fun
  | [d1, d2] => { results := [.lit (.bool false)], args := [d1, d2] }
  | _ => none }
def FnExactPocketPlaneWrongFalsely : Prop := fnExactPocketPlaneRow.holds Try.pinned (OpenSpec.ofChange fnExactPocketPlaneWrong)

/-- 'laws.FnExactAreShares': WHATEVER THE INPUT: true; the input reads as it did. -/
def fnExactAreSharesSpec : ChangeSpec := { name := "fnExactAreShares", fn := fun _ => fun
  | [d] => { results := [.lit (.bool true)], args := [d] }
  | _ => none }
def fnExactAreSharesRow : OpenClaim := { program := "ytfooajnjkkpkiaa", sum := "1060f726f3e1f4420e3741b684382a79f16d5cfcc0f172b28e14608101925527", func := "loop.example/g01135/laws.FnExactAreShares", spec := "fnExactAreShares", unfollowed := true, recurses := true, apart := false }
def FnExactAreSharesSaid : Prop := fnExactAreSharesRow.holds Try.pinned (OpenSpec.ofChange fnExactAreSharesSpec)

/-- ITS FALSE NEIGHBOUR: 'it returns false'. Refute it at one input. -/
def fnExactAreSharesWrong : ChangeSpec := { name := "fnExactAreShares", fn := fun _ => fun
  | [d] => { results := [.lit (.bool false)], args := [d] }
  | _ => none }
def FnExactAreSharesWrongFalsely : Prop := fnExactAreSharesRow.holds Try.pinned (OpenSpec.ofChange fnExactAreSharesWrong)

/-- 'laws.FnExactStepWinnow': WHATEVER THE INPUT: true; the input reads as it did. -/
def fnExactStepWinnowSpec : ChangeSpec := { name := "fnExactStepWinnow", fn := fun _ => fun
  | [d1, d2, d3] => { results := [.lit (.bool true)], args := [d1, d2, d3] }
  | _ => none }
def fnExactStepWinnowRow : OpenClaim := { program := "ytfooajnjkkpkiaa", sum := "1060f726f3e1f4420e3741b684382a79f16d5cfcc0f172b28e14608101925527", func := "loop.example/g01135/laws.FnExactStepWinnow", spec := "fnExactStepWinnow", unfollowed := true, recurses := true, apart := false }
def FnExactStepWinnowSaid : Prop := fnExactStepWinnowRow.holds Try.pinned (OpenSpec.ofChange fnExactStepWinnowSpec)

/-- ITS FALSE NEIGHBOUR: 'it returns false'. Refute it at one input. -/
def fnExactStepWinnowWrong : ChangeSpec := { name := "fnExactStepWinnow", fn := fun _ => fun
  | [d1, d2, d3] => { results := [.lit (.bool false)], args := [d1, d2, d3] }
  | _ => none }
def FnExactStepWinnowWrongFalsely : Prop := fnExactStepWinnowRow.holds Try.pinned (OpenSpec.ofChange fnExactStepWinnowWrong)

/-- 'laws.FnExactRunWinnow': WHATEVER THE INPUT: true; the input reads as it did. -/
def fnExactRunWinnowSpec : ChangeSpec := { name := "fnExactRunWinnow", fn := fun _ => fun
  | [d1, d2, d3] => { results := [.lit (.bool true)], args := [d1, d2, d3] }
  | _ => none }
def fnExactRunWinnowRow : OpenClaim := { program := "ytfooajnjkkpkiaa", sum := "1060f726f3e1f4420e3741b684382a79f16d5cfcc0f172b28e14608101925527", func := "loop.example/g01135/laws.FnExactRunWinnow", spec := "fnExactRunWinnow", unfollowed := true, recurses := true, apart := false }
def FnExactRunWinnowSaid : Prop := fnExactRunWinnowRow.holds Try.pinned (OpenSpec.ofChange fnExactRunWinnowSpec)

/-- ITS FALSE NEIGHBOUR: 'it returns false'. Refute it at one input. -/
def fnExactRunWinnowWrong : ChangeSpec := { name := "fnExactRunWinnow", fn := fun _ => fun
  | [d1, d2, d3] => { results := [.lit (.bool false)], args := [d1, d2, d3] }
  | _ => none }
def FnExactRunWinnowWrongFalsely : Prop := fnExactRunWinnowRow.holds Try.pinned (OpenSpec.ofChange fnExactRunWinnowWrong)

/-- 'laws.FnExactOrAnswers': WHATEVER THE INPUT: true; the input reads as it did. -/
def fnExactOrAnswersSpec : ChangeSpec := { name := "fnExactOrAnswers", fn := fun _ => fun
  | [d1, d2, d3] => { results := [.lit (.bool true)], args := [d1, d2, d3] }
  | _ => none }
def fnExactOrAnswersRow : OpenClaim := { program := "ytfooajnjkkpkiaa", sum := "1060f726f3e1f4420e3741b684382a79f16d5cfcc0f172b28e14608101925527", func := "loop.example/g01135/laws.FnExactOrAnswers", spec := "fnExactOrAnswers", unfollowed := true, recurses := true, apart := false }
def FnExactOrAnswersSaid : Prop := fnExactOrAnswersRow.holds Try.pinned (OpenSpec.ofChange fnExactOrAnswersSpec)

/-- ITS FALSE NEIGHBOUR: 'it returns false'. Refute it at one input. -/
def fnExactOrAnswersWrong : ChangeSpec := { name := "fnExactOrAnswers", fn := fun _ => fun
  | [d1, d2, d3] => { results := [.lit (.bool false)], args := [d1, d2, d3] }
  | _ => none }
def FnExactOrAnswersWrongFalsely : Prop := fnExactOrAnswersRow.holds Try.pinned (OpenSpec.ofChange fnExactOrAnswersWrong)

/-- 'laws.FnExactWinnowBound': WHATEVER THE INPUT: true; the input reads as it did. -/
def fnExactWinnowBoundSpec : ChangeSpec := { name := "fnExactWinnowBound", fn := fun _ => fun
  | [d1, d2] => { results := [.lit (.bool true)], args := [d1, d2] }
  | _ => none }
def fnExactWinnowBoundRow : OpenClaim := { program := "ytfooajnjkkpkiaa", sum := "1060f726f3e1f4420e3741b684382a79f16d5cfcc0f172b28e14608101925527", func := "loop.example/g01135/laws.FnExactWinnowBound", spec := "fnExactWinnowBound", apart := false }
def FnExactWinnowBoundSaid : Prop := fnExactWinnowBoundRow.holds Try.pinned (OpenSpec.ofChange fnExactWinnowBoundSpec)

/-- ITS FALSE NEIGHBOUR: 'it returns false'. Refute it at one input. -/
def fnExactWinnowBoundWrong : ChangeSpec := { name := "fnExactWinnowBound", fn := fun _ => fun
  | [d1, d2] => { results := [.lit (.bool false)], args := [d1, d2] }
  | _ => none }
def FnExactWinnowBoundWrongFalsely : Prop := fnExactWinnowBoundRow.holds Try.pinned (OpenSpec.ofChange fnExactWinnowBoundWrong)

/- THE SECOND FORM. 'bulk': how many values and letters a reading holds, each counted each time it is reached (what is shared counts as often as it is met; a slice's spare places count too). A statement '..UptoSaid' is the law's where the arguments, and the package variables that the reading takes, are together of bulk at most 1048576: NARROWER than '..Said'. Prove '..Said' where nothing that the law and all that it calls make is longer than what came in: it says more and counts as full. Else prove '..UptoSaid'. A law counts once. -/
mutual
def uptoBulk {H : Type} : DataW H → Nat
  | .lit (.string bytes) => bytes.length + 1
  | .lit _ => 1
  | .nil => 1
  | .ptr d => uptoBulk d + 1
  | .slice elems spare => uptoBulkAll elems + uptoBulkAll spare + 1
  | .agg parts => uptoBulkAll parts + 1
  | .iface _ d => uptoBulk d + 1
  | .map entries => uptoBulkEntries entries + 1
  | .held _ => 1
def uptoBulkAll {H : Type} : List (DataW H) → Nat
  | [] => 0
  | d :: r => uptoBulk d + uptoBulkAll r
def uptoBulkEntries {H : Type} : List (Lit × DataW H) → Nat
  | [] => 0
  | x :: r => uptoBulkEntry x + uptoBulkEntries r
def uptoBulkEntry {H : Type} : Lit × DataW H → Nat
  | (.string bytes, d) => bytes.length + uptoBulk d + 1
  | (_, d) => uptoBulk d + 1
 end
def uptoSmall : (H : Type) → List (DataW H) → Bool := fun _ ds => decide (uptoBulkAll ds ≤ 1048576)
def OpenSpec.upto (s : _root_.Go.ChangeSpec) : _root_.Go.OpenSpec := { _root_.Go.OpenSpec.ofChange s with cond := some uptoSmall }

/-- 'laws.FnPerceptrons', WHERE WHAT IT READS IS OF BULK AT MOST 1048576: true; the input reads as it did. -/
def fnPerceptronsUptoRow : OpenClaim := { program := "ytfooajnjkkpkiaa", sum := "1060f726f3e1f4420e3741b684382a79f16d5cfcc0f172b28e14608101925527", func := "loop.example/g01135/laws.FnPerceptrons", spec := "fnPerceptrons", unfollowed := true, recurses := true, apart := false, narrowed := true }
def FnPerceptronsUptoSaid : Prop := fnPerceptronsUptoRow.holds Try.pinned (OpenSpec.upto fnPerceptronsSpec)

/-- 'laws.FnWinnow', WHERE WHAT IT READS IS OF BULK AT MOST 1048576: true; the input reads as it did. -/
def fnWinnowUptoRow : OpenClaim := { program := "ytfooajnjkkpkiaa", sum := "1060f726f3e1f4420e3741b684382a79f16d5cfcc0f172b28e14608101925527", func := "loop.example/g01135/laws.FnWinnow", spec := "fnWinnow", unfollowed := true, recurses := true, apart := false, narrowed := true }
def FnWinnowUptoSaid : Prop := fnWinnowUptoRow.holds Try.pinned (OpenSpec.upto fnWinnowSpec)

/-- 'laws.FnExactStepPerceptron', WHERE WHAT IT READS IS OF BULK AT MOST 1048576: true; the input reads as it did. -/
def fnExactStepPerceptronUptoRow : OpenClaim := { program := "ytfooajnjkkpkiaa", sum := "1060f726f3e1f4420e3741b684382a79f16d5cfcc0f172b28e14608101925527", func := "loop.example/g01135/laws.FnExactStepPerceptron", spec := "fnExactStepPerceptron", apart := false, narrowed := true }
def FnExactStepPerceptronUptoSaid : Prop := fnExactStepPerceptronUptoRow.holds Try.pinned (OpenSpec.upto fnExactStepPerceptronSpec)

/-- 'laws.FnExactRunPerceptron', WHERE WHAT IT READS IS OF BULK AT MOST 1048576: true; the input reads as it did. -/
def fnExactRunPerceptronUptoRow : OpenClaim := { program := "ytfooajnjkkpkiaa", sum := "1060f726f3e1f4420e3741b684382a79f16d5cfcc0f172b28e14608101925527", func := "loop.example/g01135/laws.FnExactRunPerceptron", spec := "fnExactRunPerceptron", unfollowed := true, recurses := true, apart := false, narrowed := true }
def FnExactRunPerceptronUptoSaid : Prop := fnExactRunPerceptronUptoRow.holds Try.pinned (OpenSpec.upto fnExactRunPerceptronSpec)

/-- 'laws.FnExactPerceptronTrace', WHERE WHAT IT READS IS OF BULK AT MOST 1048576: true; the input reads as it did. -/
def fnExactPerceptronTraceUptoRow : OpenClaim := { program := "ytfooajnjkkpkiaa", sum := "1060f726f3e1f4420e3741b684382a79f16d5cfcc0f172b28e14608101925527", func := "loop.example/g01135/laws.FnExactPerceptronTrace", spec := "fnExactPerceptronTrace", unfollowed := true, recurses := true, apart := false, narrowed := true }
def FnExactPerceptronTraceUptoSaid : Prop := fnExactPerceptronTraceUptoRow.holds Try.pinned (OpenSpec.upto fnExactPerceptronTraceSpec)

/-- 'laws.FnExactDualCounts', WHERE WHAT IT READS IS OF BULK AT MOST 1048576: true; the input reads as it did. -/
def fnExactDualCountsUptoRow : OpenClaim := { program := "ytfooajnjkkpkiaa", sum := "1060f726f3e1f4420e3741b684382a79f16d5cfcc0f172b28e14608101925527", func := "loop.example/g01135/laws.FnExactDualCounts", spec := "fnExactDualCounts", unfollowed := true, recurses := true, apart := false, narrowed := true }
def FnExactDualCountsUptoSaid : Prop := fnExactDualCountsUptoRow.holds Try.pinned (OpenSpec.upto fnExactDualCountsSpec)

/-- 'laws.FnExactPlaneOfCounts', WHERE WHAT IT READS IS OF BULK AT MOST 1048576: true; the input reads as it did. -/
def fnExactPlaneOfCountsUptoRow : OpenClaim := { program := "ytfooajnjkkpkiaa", sum := "1060f726f3e1f4420e3741b684382a79f16d5cfcc0f172b28e14608101925527", func := "loop.example/g01135/laws.FnExactPlaneOfCounts", spec := "fnExactPlaneOfCounts", unfollowed := true, recurses := true, apart := false, narrowed := true }
def FnExactPlaneOfCountsUptoSaid : Prop := fnExactPlaneOfCountsUptoRow.holds Try.pinned (OpenSpec.upto fnExactPlaneOfCountsSpec)

/-- 'laws.FnExactMarginOf', WHERE WHAT IT READS IS OF BULK AT MOST 1048576: true; the input reads as it did. -/
def fnExactMarginOfUptoRow : OpenClaim := { program := "ytfooajnjkkpkiaa", sum := "1060f726f3e1f4420e3741b684382a79f16d5cfcc0f172b28e14608101925527", func := "loop.example/g01135/laws.FnExactMarginOf", spec := "fnExactMarginOf", apart := false, narrowed := true }
def FnExactMarginOfUptoSaid : Prop := fnExactMarginOfUptoRow.holds Try.pinned (OpenSpec.upto fnExactMarginOfSpec)

/-- 'laws.FnExactMistakeBound', WHERE WHAT IT READS IS OF BULK AT MOST 1048576: true; the input reads as it did. -/
def fnExactMistakeBoundUptoRow : OpenClaim := { program := "ytfooajnjkkpkiaa", sum := "1060f726f3e1f4420e3741b684382a79f16d5cfcc0f172b28e14608101925527", func := "loop.example/g01135/laws.FnExactMistakeBound", spec := "fnExactMistakeBound", apart := false, narrowed := true }
def FnExactMistakeBoundUptoSaid : Prop := fnExactMistakeBoundUptoRow.holds Try.pinned (OpenSpec.upto fnExactMistakeBoundSpec)

/-- 'laws.FnExactPocketPlane', WHERE WHAT IT READS IS OF BULK AT MOST 1048576: true; the input reads as it did. -/
def fnExactPocketPlaneUptoRow : OpenClaim := { program := "ytfooajnjkkpkiaa", sum := "1060f726f3e1f4420e3741b684382a79f16d5cfcc0f172b28e14608101925527", func := "loop.example/g01135/laws.FnExactPocketPlane", spec := "fnExactPocketPlane", unfollowed := true, recurses := true, apart := false, narrowed := true }
def FnExactPocketPlaneUptoSaid : Prop := fnExactPocketPlaneUptoRow.holds Try.pinned (OpenSpec.upto fnExactPocketPlaneSpec)

/-- 'laws.FnExactAreShares', WHERE WHAT IT READS IS OF BULK AT MOST 1048576: true; the input reads as it did. -/
def fnExactAreSharesUptoRow : OpenClaim := { program := "ytfooajnjkkpkiaa", sum := "1060f726f3e1f4420e3741b684382a79f16d5cfcc0f172b28e14608101925527", func := "loop.example/g01135/laws.FnExactAreShares", spec := "fnExactAreShares", unfollowed := true, recurses := true, apart := false, narrowed := true }
def FnExactAreSharesUptoSaid : Prop := fnExactAreSharesUptoRow.holds Try.pinned (OpenSpec.upto fnExactAreSharesSpec)

/-- 'laws.FnExactStepWinnow', WHERE WHAT IT READS IS OF BULK AT MOST 1048576: true; the input reads as it did. -/
def fnExactStepWinnowUptoRow : OpenClaim := { program := "ytfooajnjkkpkiaa", sum := "1060f726f3e1f4420e3741b684382a79f16d5cfcc0f172b28e14608101925527", func := "loop.example/g01135/laws.FnExactStepWinnow", spec := "fnExactStepWinnow", unfollowed := true, recurses := true, apart := false, narrowed := true }
def FnExactStepWinnowUptoSaid : Prop := fnExactStepWinnowUptoRow.holds Try.pinned (OpenSpec.upto fnExactStepWinnowSpec)

/-- 'laws.FnExactRunWinnow', WHERE WHAT IT READS IS OF BULK AT MOST 1048576: true; the input reads as it did. -/
def fnExactRunWinnowUptoRow : OpenClaim := { program := "ytfooajnjkkpkiaa", sum := "1060f726f3e1f4420e3741b684382a79f16d5cfcc0f172b28e14608101925527", func := "loop.example/g01135/laws.FnExactRunWinnow", spec := "fnExactRunWinnow", unfollowed := true, recurses := true, apart := false, narrowed := true }
def FnExactRunWinnowUptoSaid : Prop := fnExactRunWinnowUptoRow.holds Try.pinned (OpenSpec.upto fnExactRunWinnowSpec)

/-- 'laws.FnExactOrAnswers', WHERE WHAT IT READS IS OF BULK AT MOST 1048576: true; the input reads as it did. -/
def fnExactOrAnswersUptoRow : OpenClaim := { program := "ytfooajnjkkpkiaa", sum := "1060f726f3e1f4420e3741b684382a79f16d5cfcc0f172b28e14608101925527", func := "loop.example/g01135/laws.FnExactOrAnswers", spec := "fnExactOrAnswers", unfollowed := true, recurses := true, apart := false, narrowed := true }
def FnExactOrAnswersUptoSaid : Prop := fnExactOrAnswersUptoRow.holds Try.pinned (OpenSpec.upto fnExactOrAnswersSpec)

/-- 'laws.FnExactWinnowBound', WHERE WHAT IT READS IS OF BULK AT MOST 1048576: true; the input reads as it did. -/
def fnExactWinnowBoundUptoRow : OpenClaim := { program := "ytfooajnjkkpkiaa", sum := "1060f726f3e1f4420e3741b684382a79f16d5cfcc0f172b28e14608101925527", func := "loop.example/g01135/laws.FnExactWinnowBound", spec := "fnExactWinnowBound", apart := false, narrowed := true }
def FnExactWinnowBoundUptoSaid : Prop := fnExactWinnowBoundUptoRow.holds Try.pinned (OpenSpec.upto fnExactWinnowBoundSpec)

end Rows
end Go.Proofs.Ytfooajnjkkpkiaa
