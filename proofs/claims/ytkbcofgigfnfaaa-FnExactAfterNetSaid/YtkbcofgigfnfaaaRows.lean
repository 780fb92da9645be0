/-
  No cell of these rows narrows 'for every input' (looked for: loops, veiled, ifaces, maps, wideKeys, modest, calm, conditions, laid).
  DERIVED. THE GIVEN ROWS OF THIS SEAT. 12 by the template 'for every input the law returns true; each argument reads behind the call as it read before'; 0 by the template 'total and deterministic' (their statements: YtkbcofgigfnfaaaTotals.lean).
  GIVEN WITH THE SEED: the statements are not yours to turn. If you find one false, say at which input.
  Laid BY PROGRAM, IN A SANDBOX (cutbox-rows.mjs): the forced cells as the released guide's own fill.sh prints them over the translation 49d2f3a62262df21… (all of the seat's roots in one cut). By AI agents, Wed Nov 11 2026. No macro, syntax, notation, axiom, sorry.
-/
import Derived.Test.YtkbcofgigfnfaaaChecked
import GoSem.Claim
import GoSem.ClaimJoined
import GoSem.ClaimMapViews
import Derived.JoinedTies
import Derived.KernelRfl
namespace Go.Proofs.Ytkbcofgigfnfaaa
/- THE CELL 'sum', in the pinned program and in every row, IS THE sha256 OF THE DUMP (.gsa) THAT YtkbcofgigfnfaaaProg.lean LOADS. Nothing in Lean hashes anything: it is a label: what it is worth is what the hold of that sum in a sandbox is worth. -/
noncomputable def Try.pinned : Pinned := { name := "ytkbcofgigfnfaaa", sum := "49d2f3a62262df2176ebf0e2eac10bf77c520bad3ef3c3de63fae67fd883a336", checked := Try.checked }
namespace Rows
def none {H : Type} : Left H := { results := [], args := [] }

/-- 'laws.FnExactNearestPlaces': WHATEVER THE INPUT: true; the input reads as it did. -/
def fnExactNearestPlacesSpec : ChangeSpec := { name := "fnExactNearestPlaces", fn := fun _ => fun
  | [d1, d2, d3] => { results := [.lit (.bool true)], args := [d1, d2, d3] }
  | _ => none }
def fnExactNearestPlacesRow : OpenClaim := { program := "ytkbcofgigfnfaaa", sum := "49d2f3a62262df2176ebf0e2eac10bf77c520bad3ef3c3de63fae67fd883a336", func := "loop.example/g01135/laws.FnExactNearestPlaces", spec := "fnExactNearestPlaces", unfollowed := true, recurses := true, apart := false }
def FnExactNearestPlacesSaid : Prop := fnExactNearestPlacesRow.holds Try.pinned (OpenSpec.ofChange fnExactNearestPlacesSpec)

/-- ITS FALSE NEIGHBOUR: 'it returns false'. Refute it at one input. -/
def fnExactNearestPlacesWrong : ChangeSpec := { name := "fnExactNearestPlaces", fn := fun _ => fun
  | [d1, d2, d3] => { results := [.lit (.bool false)], args := [d1, d2, d3] }
  | _ => none }
def FnExactNearestPlacesWrongFalsely : Prop := fnExactNearestPlacesRow.holds Try.pinned (OpenSpec.ofChange fnExactNearestPlacesWrong)

/-- 'laws.FnExactNearLabel': WHATEVER THE INPUT: true; the input reads as it did. -/
def fnExactNearLabelSpec : ChangeSpec := { name := "fnExactNearLabel", fn := fun _ => fun
  | [d1, d2, d3] => { results := [.lit (.bool true)], args := [d1, d2, d3] }
  | _ => none }
def fnExactNearLabelRow : OpenClaim := { program := "ytkbcofgigfnfaaa", sum := "49d2f3a62262df2176ebf0e2eac10bf77c520bad3ef3c3de63fae67fd883a336", func := "loop.example/g01135/laws.FnExactNearLabel", spec := "fnExactNearLabel", unfollowed := true, recurses := true, apart := false }
def FnExactNearLabelSaid : Prop := fnExactNearLabelRow.holds Try.pinned (OpenSpec.ofChange fnExactNearLabelSpec)

/-- ITS FALSE NEIGHBOUR: 'it returns false'. Refute it at one input. -/
def fnExactNearLabelWrong : ChangeSpec := { name := "fnExactNearLabel", fn := fun _ => fun
  | [d1, d2, d3] => { results := [.lit (.bool false)], args := [d1, d2, d3] }
  | _ => none }
def FnExactNearLabelWrongFalsely : Prop := fnExactNearLabelRow.holds Try.pinned (OpenSpec.ofChange fnExactNearLabelWrong)

/-- 'laws.FnExactLeftOutMistakes': WHATEVER THE INPUT: true; the input reads as it did. -/
def fnExactLeftOutMistakesSpec : ChangeSpec := { name := "fnExactLeftOutMistakes", fn := fun _ => fun
  | [d1, d2] => { results := [.lit (.bool true)], args := [d1, d2] }
  | _ => none }
def fnExactLeftOutMistakesRow : OpenClaim := { program := "ytkbcofgigfnfaaa", sum := "49d2f3a62262df2176ebf0e2eac10bf77c520bad3ef3c3de63fae67fd883a336", func := "loop.example/g01135/laws.FnExactLeftOutMistakes", spec := "fnExactLeftOutMistakes", unfollowed := true, recurses := true, apart := false }
def FnExactLeftOutMistakesSaid : Prop := fnExactLeftOutMistakesRow.holds Try.pinned (OpenSpec.ofChange fnExactLeftOutMistakesSpec)

/-- ITS FALSE NEIGHBOUR: 'it returns false'. Refute it at one input. -/
def fnExactLeftOutMistakesWrong : ChangeSpec := { name := "fnExactLeftOutMistakes", fn := fun _ => fun
  | [d1, d2] => { results := [.lit (.bool false)], args := [d1, d2] }
  | _ => none }
def FnExactLeftOutMistakesWrongFalsely : Prop := fnExactLeftOutMistakesRow.holds Try.pinned (OpenSpec.ofChange fnExactLeftOutMistakesWrong)

/-- 'laws.FnExactKeepsLabels': WHATEVER THE INPUT: true; the input reads as it did. -/
def fnExactKeepsLabelsSpec : ChangeSpec := { name := "fnExactKeepsLabels", fn := fun _ => fun
  | [d1, d2] => { results := [.lit (.bool true)], args := [d1, d2] }
  | _ => none }
def fnExactKeepsLabelsRow : OpenClaim := { program := "ytkbcofgigfnfaaa", sum := "49d2f3a62262df2176ebf0e2eac10bf77c520bad3ef3c3de63fae67fd883a336", func := "loop.example/g01135/laws.FnExactKeepsLabels", spec := "fnExactKeepsLabels", recurses := true, apart := false }
def FnExactKeepsLabelsSaid : Prop := fnExactKeepsLabelsRow.holds Try.pinned (OpenSpec.ofChange fnExactKeepsLabelsSpec)

/-- ITS FALSE NEIGHBOUR: 'it returns false'. Refute it at one input. -/
def fnExactKeepsLabelsWrong : ChangeSpec := { name := "fnExactKeepsLabels", fn := fun _ => fun
  | [d1, d2] => { results := [.lit (.bool false)], args := [d1, d2] }
  | _ => none }
def FnExactKeepsLabelsWrongFalsely : Prop := fnExactKeepsLabelsRow.holds Try.pinned (OpenSpec.ofChange fnExactKeepsLabelsWrong)

/-- 'laws.FnExactPairPlane': WHATEVER THE INPUT: true; the input reads as it did. -/
def fnExactPairPlaneSpec : ChangeSpec := { name := "fnExactPairPlane", fn := fun _ => fun
  | [d1, d2] => { results := [.lit (.bool true)], args := [d1, d2] }
  | _ => none }
def fnExactPairPlaneRow : OpenClaim := { program := "ytkbcofgigfnfaaa", sum := "49d2f3a62262df2176ebf0e2eac10bf77c520bad3ef3c3de63fae67fd883a336", func := "loop.example/g01135/laws.FnExactPairPlane", spec := "fnExactPairPlane", apart := false }
def FnExactPairPlaneSaid : Prop := fnExactPairPlaneRow.holds Try.pinned (OpenSpec.ofChange fnExactPairPlaneSpec)

/-- ITS FALSE NEIGHBOUR: 'it returns false'. Refute it at one input. -/
def fnExactPairPlaneWrong : ChangeSpec := { name := "fnExactPairPlane", fn := fun _ => fun
  | [d1, d2] => { results := [.lit (.bool false)], args := [d1, d2] }
  | _ => none }
def FnExactPairPlaneWrongFalsely : Prop := fnExactPairPlaneRow.holds Try.pinned (OpenSpec.ofChange fnExactPairPlaneWrong)

/-- 'laws.FnExactMeanPlane': WHATEVER THE INPUT: true; the input reads as it did. -/
def fnExactMeanPlaneSpec : ChangeSpec := { name := "fnExactMeanPlane", fn := fun _ => fun
  | [d] => { results := [.lit (.bool true)], args := [d] }
  | _ => none }
def fnExactMeanPlaneRow : OpenClaim := { program := "ytkbcofgigfnfaaa", sum := "49d2f3a62262df2176ebf0e2eac10bf77c520bad3ef3c3de63fae67fd883a336", func := "loop.example/g01135/laws.FnExactMeanPlane", spec := "fnExactMeanPlane", apart := false }
def FnExactMeanPlaneSaid : Prop := fnExactMeanPlaneRow.holds Try.pinned (OpenSpec.ofChange fnExactMeanPlaneSpec)

/-- ITS FALSE NEIGHBOUR: 'it returns false'. Refute it at one input. -/
def fnExactMeanPlaneWrong : ChangeSpec := { name := "fnExactMeanPlane", fn := fun _ => fun
  | [d] => { results := [.lit (.bool false)], args := [d] }
  | _ => none }
def FnExactMeanPlaneWrongFalsely : Prop := fnExactMeanPlaneRow.holds Try.pinned (OpenSpec.ofChange fnExactMeanPlaneWrong)

/-- 'laws.FnExactKernelOf': WHATEVER THE INPUT: true; the input reads as it did. -/
def fnExactKernelOfSpec : ChangeSpec := { name := "fnExactKernelOf", fn := fun _ => fun
  | [d1, d2, d3] => { results := [.lit (.bool true)], args := [d1, d2, d3] }
  | _ => none }
def fnExactKernelOfRow : OpenClaim := { program := "ytkbcofgigfnfaaa", sum := "49d2f3a62262df2176ebf0e2eac10bf77c520bad3ef3c3de63fae67fd883a336", func := "loop.example/g01135/laws.FnExactKernelOf", spec := "fnExactKernelOf", apart := false }
def FnExactKernelOfSaid : Prop := fnExactKernelOfRow.holds Try.pinned (OpenSpec.ofChange fnExactKernelOfSpec)

/-- ITS FALSE NEIGHBOUR: 'it returns false'. Refute it at one input. -/
def fnExactKernelOfWrong : ChangeSpec := { name := "fnExactKernelOf", fn := fun _ => fun
  | [d1, d2, d3] => { results := [.lit (.bool false)], args := [d1, d2, d3] }
  | _ => none }
def FnExactKernelOfWrongFalsely : Prop := fnExactKernelOfRow.holds Try.pinned (OpenSpec.ofChange fnExactKernelOfWrong)

/-- 'laws.FnExactForceOf': WHATEVER THE INPUT: true; the input reads as it did. -/
def fnExactForceOfSpec : ChangeSpec := { name := "fnExactForceOf", fn := fun _ => fun
  | [d1, d2, d3, d4] => { results := [.lit (.bool true)], args := [d1, d2, d3, d4] }
  | _ => none }
def fnExactForceOfRow : OpenClaim := { program := "ytkbcofgigfnfaaa", sum := "49d2f3a62262df2176ebf0e2eac10bf77c520bad3ef3c3de63fae67fd883a336", func := "loop.example/g01135/laws.FnExactForceOf", spec := "fnExactForceOf", unfollowed := true, recurses := true, apart := false }
def FnExactForceOfSaid : Prop := fnExactForceOfRow.holds Try.pinned (OpenSpec.ofChange fnExactForceOfSpec)

/-- ITS FALSE NEIGHBOUR: 'it returns false'. Refute it at one input. -/
def fnExactForceOfWrong : ChangeSpec := { name := "fnExactForceOf", fn := fun _ => fun
  | [d1, d2, d3, d4] => { results := [.lit (.bool false)], args := [d1, d2, d3, d4] }
  | _ => none }
def FnExactForceOfWrongFalsely : Prop := fnExactForceOfRow.holds Try.pinned (OpenSpec.ofChange fnExactForceOfWrong)

/-- 'laws.FnExactKernelMistakes': WHATEVER THE INPUT: true; the input reads as it did. -/
def fnExactKernelMistakesSpec : ChangeSpec := { name := "fnExactKernelMistakes", fn := fun _ => fun
  | [d1, d2, d3] => { results := [.lit (.bool true)], args := [d1, d2, d3] }
  | _ => none }
def fnExactKernelMistakesRow : OpenClaim := { program := "ytkbcofgigfnfaaa", sum := "49d2f3a62262df2176ebf0e2eac10bf77c520bad3ef3c3de63fae67fd883a336", func := "loop.example/g01135/laws.FnExactKernelMistakes", spec := "fnExactKernelMistakes", unfollowed := true, recurses := true, apart := false }
def FnExactKernelMistakesSaid : Prop := fnExactKernelMistakesRow.holds Try.pinned (OpenSpec.ofChange fnExactKernelMistakesSpec)

/-- ITS FALSE NEIGHBOUR: 'it returns false'. Refute it at one input. -/
def fnExactKernelMistakesWrong : ChangeSpec := { name := "fnExactKernelMistakes", fn := fun _ => fun
  | [d1, d2, d3] => { results := [.lit (.bool false)], args := [d1, d2, d3] }
  | _ => none }
def FnExactKernelMistakesWrongFalsely : Prop := fnExactKernelMistakesRow.holds Try.pinned (OpenSpec.ofChange fnExactKernelMistakesWrong)

/-- 'laws.FnExactKernelRun': WHATEVER THE INPUT: true; the input reads as it did. -/
def fnExactKernelRunSpec : ChangeSpec := { name := "fnExactKernelRun", fn := fun _ => fun
  | [d1, d2, d3] => { results := [.lit (.bool true)], args := [d1, d2, d3] }
  | _ => none }
def fnExactKernelRunRow : OpenClaim := { program := "ytkbcofgigfnfaaa", sum := "49d2f3a62262df2176ebf0e2eac10bf77c520bad3ef3c3de63fae67fd883a336", func := "loop.example/g01135/laws.FnExactKernelRun", spec := "fnExactKernelRun", apart := false }
def FnExactKernelRunSaid : Prop := fnExactKernelRunRow.holds Try.pinned (OpenSpec.ofChange fnExactKernelRunSpec)

/-- ITS FALSE NEIGHBOUR: 'it returns false'. Refute it at one input. -/
def fnExactKernelRunWrong : ChangeSpec := { name := "fnExactKernelRun", fn := fun _ => fun
  | [d1, d2, d3] => { results := [.lit (.bool false)], args := [d1, d2, d3] }
  | _ => none }
def FnExactKernelRunWrongFalsely : Prop := fnExactKernelRunRow.holds Try.pinned (OpenSpec.ofChange fnExactKernelRunWrong)

/-- 'laws.FnExactKernelSquare': WHATEVER THE INPUT: true; the input reads as it did. -/
def fnExactKernelSquareSpec : ChangeSpec := { name := "fnExactKernelSquare", fn := fun _ => fun
  | [d1, d2, d3] => { results := [.lit (.bool true)], args := [d1, d2, d3] }
  | _ => none }
def fnExactKernelSquareRow : OpenClaim := { program := "ytkbcofgigfnfaaa", sum := "49d2f3a62262df2176ebf0e2eac10bf77c520bad3ef3c3de63fae67fd883a336", func := "loop.example/g01135/laws.FnExactKernelSquare", spec := "fnExactKernelSquare", unfollowed := true, recurses := true, apart := false }
def FnExactKernelSquareSaid : Prop := fnExactKernelSquareRow.holds Try.pinned (OpenSpec.ofChange fnExactKernelSquareSpec)

/-- ITS FALSE NEIGHBOUR: 'it returns false'. Refute it at one input. -/
def fnExactKernelSquareWrong : ChangeSpec := { name := "fnExactKernelSquare", fn := fun _ => fun
  | [d1, d2, d3] => { results := [.lit (.bool false)], args := [d1, d2, d3] }
  | _ => none }
def FnExactKernelSquareWrongFalsely : Prop := fnExactKernelSquareRow.holds Try.pinned (OpenSpec.ofChange fnExactKernelSquareWrong)

/-- 'laws.FnExactAfterNet': WHATEVER THE INPUT: true; the input reads as it did. -/
def fnExactAfterNetSpec : ChangeSpec := { name := "fnExactAfterNet", fn := fun _ => fun
  | [d1, d2] => { results := [.lit (.bool true)], args := [d1, d2] }
  | _ => none }
def fnExactAfterNetRow : OpenClaim := { program := "ytkbcofgigfnfaaa", sum := "49d2f3a62262df2176ebf0e2eac10bf77c520bad3ef3c3de63fae67fd883a336", func := "loop.example/g01135/laws.FnExactAfterNet", spec := "fnExactAfterNet", unfollowed := true, recurses := true, apart := false }
def FnExactAfterNetSaid : Prop := fnExactAfterNetRow.holds Try.pinned (OpenSpec.ofChange fnExactAfterNetSpec)

/-- ITS FALSE NEIGHBOUR: 'it returns false'. Refute it at one input. -/
def fnExactAfterNetWrong : ChangeSpec := { name := "fnExactAfterNet", fn := fun _ => fun
  | [d1, d2] => { results := [.lit (.bool false)], args := [d1, d2] }
  | _ => none }
def FnExactAfterNetWrongFalsely : Prop := fnExactAfterNetRow.holds Try.pinned (OpenSpec.ofChange fnExactAfterNetWrong)

/- THE SECOND FORM. 'bulk': how many values and letters a reading holds, each counted each time it is reached (what is shared counts as often as it is met; a slice's spare places count too). A statement '..UptoSaid' is the law's where the arguments, and the package variables that the reading takes, are together of bulk at most 1048576: NARROWER than '..Said'. Prove '..Said' where nothing that the law and all that it calls make is longer than what came in: it says more and counts as full. Else prove '..UptoSaid'. A law counts once. -/
mutual
def uptoBulk {H : Type} : DataW H → Nat
  | .lit (.string bytes) => bytes.length + 1
  | .lit _ => 1
  | .nil => 1
  | .ptr d => uptoBulk d + 1
  | .slice elems spare => uptoBulkAll elems + uptoBulkAll spare + 1
  | .agg parts => uptoBulkAll parts + 1
  | .iface _ d => uptoBulk d + 1
  | .map entries => uptoBulkEntries entries + 1
  | .held _ => 1
def uptoBulkAll {H : Type} : List (DataW H) → Nat
  | [] => 0
  | d :: r => uptoBulk d + uptoBulkAll r
def uptoBulkEntries {H : Type} : List (Lit × DataW H) → Nat
  | [] => 0
  | x :: r => uptoBulkEntry x + uptoBulkEntries r
def uptoBulkEntry {H : Type} : Lit × DataW H → Nat
  | (.string bytes, d) => bytes.length + uptoBulk d + 1
  | (_, d) => uptoBulk d + 1
 end
def uptoSmall : (H : Type) → List (DataW H) → Bool := fun _ ds => decide (uptoBulkAll ds ≤ 1048576)
def OpenSpec.upto (s : _root_.Go.ChangeSpec) : _root_.Go.OpenSpec := { _root_.Go.OpenSpec.ofChange s with cond := some uptoSmall }

/-- 'laws.FnExactNearestPlaces', WHERE WHAT IT READS IS OF BULK AT MOST 1048576: true; the input reads as it did. -/
def fnExactNearestPlacesUptoRow : OpenClaim := { program := "ytkbcofgigfnfaaa", sum := "49d2f3a62262df2176ebf0e2eac10bf77c520bad3ef3c3de63fae67fd883a336", func := "loop.example/g01135/laws.FnExactNearestPlaces", spec := "fnExactNearestPlaces", unfollowed := true, recurses := true, apart := false, narrowed := true }
def FnExactNearestPlacesUptoSaid : Prop := fnExactNearestPlacesUptoRow.holds Try.pinned (OpenSpec.upto fnExactNearestPlacesSpec)

/-- 'laws.FnExactNearLabel', WHERE WHAT IT READS IS OF BULK AT MOST 1048576: true; the input reads as it did. -/
def fnExactNearLabelUptoRow : OpenClaim := { program := "ytkbcofgigfnfaaa", sum := "49d2f3a62262df2176ebf0e2eac10bf77c520bad3ef3c3de63fae67fd883a336", func := "loop.example/g01135/laws.FnExactNearLabel", spec := "fnExactNearLabel", unfollowed := true, recurses := true, apart := false, narrowed := true }
def FnExactNearLabelUptoSaid : Prop := fnExactNearLabelUptoRow.holds Try.pinned (OpenSpec.upto fnExactNearLabelSpec)

/-- 'laws.FnExactLeftOutMistakes', WHERE WHAT IT READS IS OF BULK AT MOST 1048576: true; the input reads as it did. -/
def fnExactLeftOutMistakesUptoRow : OpenClaim := { program := "ytkbcofgigfnfaaa", sum := "49d2f3a62262df2176ebf0e2eac10bf77c520bad3ef3c3de63fae67fd883a336", func := "loop.example/g01135/laws.FnExactLeftOutMistakes", spec := "fnExactLeftOutMistakes", unfollowed := true, recurses := true, apart := false, narrowed := true }
def FnExactLeftOutMistakesUptoSaid : Prop := fnExactLeftOutMistakesUptoRow.holds Try.pinned (OpenSpec.upto fnExactLeftOutMistakesSpec)

/-- 'laws.FnExactKeepsLabels', WHERE WHAT IT READS IS OF BULK AT MOST 1048576: true; the input reads as it did. -/
def fnExactKeepsLabelsUptoRow : OpenClaim := { program := "ytkbcofgigfnfaaa", sum := "49d2f3a62262df2176ebf0e2eac10bf77c520bad3ef3c3de63fae67fd883a336", func := "loop.example/g01135/laws.FnExactKeepsLabels", spec := "fnExactKeepsLabels", recurses := true, apart := false, narrowed := true }
def FnExactKeepsLabelsUptoSaid : Prop := fnExactKeepsLabelsUptoRow.holds Try.pinned (OpenSpec.upto fnExactKeepsLabelsSpec)

/-- 'laws.FnExactPairPlane', WHERE WHAT IT READS IS OF BULK AT MOST 1048576: true; the input reads as it did. -/
def fnExactPairPlaneUptoRow : OpenClaim := { program := "ytkbcofgigfnfaaa", sum := "49d2f3a62262df2176ebf0e2eac10bf77c520bad3ef3c3de63fae67fd883a336", func := "loop.example/g01135/laws.FnExactPairPlane", spec := "fnExactPairPlane", apart := false, narrowed := true }
def FnExactPairPlaneUptoSaid : Prop := fnExactPairPlaneUptoRow.holds Try.pinned (OpenSpec.upto fnExactPairPlaneSpec)

/-- 'laws.FnExactMeanPlane', WHERE WHAT IT READS IS OF BULK AT MOST 1048576: true; the input reads as it did. -/
def fnExactMeanPlaneUptoRow : OpenClaim := { program := "ytkbcofgigfnfaaa", sum := "49d2f3a62262df2176ebf0e2eac10bf77c520bad3ef3c3de63fae67fd883a336", func := "loop.example/g01135/laws.FnExactMeanPlane", spec := "fnExactMeanPlane", apart := false, narrowed := true }
def FnExactMeanPlaneUptoSaid : Prop := fnExactMeanPlaneUptoRow.holds Try.pinned (OpenSpec.upto fnExactMeanPlaneSpec)

/-- 'laws.FnExactKernelOf', WHERE WHAT IT READS IS OF BULK AT MOST 1048576: true; the input reads as it did. -/
def fnExactKernelOfUptoRow : OpenClaim := { program := "ytkbcofgigfnfaaa", sum := "49d2f3a62262df2176ebf0e2eac10bf77c520bad3ef3c3de63fae67fd883a336", func := "loop.example/g01135/laws.FnExactKernelOf", spec := "fnExactKernelOf", apart := false, narrowed := true }
def FnExactKernelOfUptoSaid : Prop := fnExactKernelOfUptoRow.holds Try.pinned (OpenSpec.upto fnExactKernelOfSpec)

/-- 'laws.FnExactForceOf', WHERE WHAT IT READS IS OF BULK AT MOST 1048576: true; the input reads as it did. -/
def fnExactForceOfUptoRow : OpenClaim := { program := "ytkbcofgigfnfaaa", sum := "49d2f3a62262df2176ebf0e2eac10bf77c520bad3ef3c3de63fae67fd883a336", func := "loop.example/g01135/laws.FnExactForceOf", spec := "fnExactForceOf", unfollowed := true, recurses := true, apart := false, narrowed := true }
def FnExactForceOfUptoSaid : Prop := fnExactForceOfUptoRow.holds Try.pinned (OpenSpec.upto fnExactForceOfSpec)

/-- 'laws.FnExactKernelMistakes', WHERE WHAT IT READS IS OF BULK AT MOST 1048576: true; the input reads as it did. -/
def fnExactKernelMistakesUptoRow : OpenClaim := { program := "ytkbcofgigfnfaaa", sum := "49d2f3a62262df2176ebf0e2eac10bf77c520bad3ef3c3de63fae67fd883a336", func := "loop.example/g01135/laws.FnExactKernelMistakes", spec := "fnExactKernelMistakes", unfollowed := true, recurses := true, apart := false, narrowed := true }
def FnExactKernelMistakesUptoSaid : Prop := fnExactKernelMistakesUptoRow.holds Try.pinned (OpenSpec.upto fnExactKernelMistakesSpec)

/-- 'laws.FnExactKernelRun', WHERE WHAT IT READS IS OF BULK AT MOST 1048576: true; the input reads as it did. -/
def fnExactKernelRunUptoRow : OpenClaim := { program := "ytkbcofgigfnfaaa", sum := "49d2f3a62262df2176ebf0e2eac10bf77c520bad3ef3c3de63fae67fd883a336", func := "loop.example/g01135/laws.FnExactKernelRun", spec := "fnExactKernelRun", apart := false, narrowed := true }
def FnExactKernelRunUptoSaid : Prop := fnExactKernelRunUptoRow.holds Try.pinned (OpenSpec.upto fnExactKernelRunSpec)

/-- 'laws.FnExactKernelSquare', WHERE WHAT IT READS IS OF BULK AT MOST 1048576: true; the input reads as it did. -/
def fnExactKernelSquareUptoRow : OpenClaim := { program := "ytkbcofgigfnfaaa", sum := "49d2f3a62262df2176ebf0e2eac10bf77c520bad3ef3c3de63fae67fd883a336", func := "loop.example/g01135/laws.FnExactKernelSquare", spec := "fnExactKernelSquare", unfollowed := true, recurses := true, apart := false, narrowed := true }
def FnExactKernelSquareUptoSaid : Prop := fnExactKernelSquareUptoRow.holds Try.pinned (OpenSpec.upto fnExactKernelSquareSpec)

/-- 'laws.FnExactAfterNet', WHERE WHAT IT READS IS OF BULK AT MOST 1048576: true; the input reads as it did. -/
def fnExactAfterNetUptoRow : OpenClaim := { program := "ytkbcofgigfnfaaa", sum := "49d2f3a62262df2176ebf0e2eac10bf77c520bad3ef3c3de63fae67fd883a336", func := "loop.example/g01135/laws.FnExactAfterNet", spec := "fnExactAfterNet", unfollowed := true, recurses := true, apart := false, narrowed := true }
def FnExactAfterNetUptoSaid : Prop := fnExactAfterNetUptoRow.holds Try.pinned (OpenSpec.upto fnExactAfterNetSpec)

end Rows
end Go.Proofs.Ytkbcofgigfnfaaa
