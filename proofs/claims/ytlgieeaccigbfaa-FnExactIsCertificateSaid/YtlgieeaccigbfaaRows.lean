/-
  No cell of these rows narrows 'for every input' (looked for: loops, veiled, ifaces, maps, wideKeys, modest, calm, conditions, laid).
  DERIVED. THE GIVEN ROWS OF THIS SEAT. 13 by the template 'for every input the law returns true; each argument reads behind the call as it read before'; 0 by the template 'total and deterministic' (their statements: YtlgieeaccigbfaaTotals.lean).
  GIVEN WITH THE SEED: the statements are not yours to turn. If you find one false, say at which input.
  Laid BY PROGRAM, IN A SANDBOX (cutbox-rows.mjs): the forced cells as the released guide's own fill.sh prints them over the translation 92618ae3644e9941… (all of the seat's roots in one cut). By AI agents, Wed Nov 11 2026. No macro, syntax, notation, axiom, sorry.
-/
import Derived.Test.YtlgieeaccigbfaaChecked
import GoSem.Claim
import GoSem.ClaimJoined
import GoSem.ClaimMapViews
import Derived.JoinedTies
import Derived.KernelRfl
namespace Go.Proofs.Ytlgieeaccigbfaa
/- THE CELL 'sum', in the pinned program and in every row, IS THE sha256 OF THE DUMP (.gsa) THAT YtlgieeaccigbfaaProg.lean LOADS. Nothing in Lean hashes anything: it is a label: what it is worth is what the hold of that sum in a sandbox is worth. -/
noncomputable def Try.pinned : Pinned := { name := "ytlgieeaccigbfaa", sum := "92618ae3644e9941a89ede6851715d0f4dd2aa12bae85b618879f197ec9a63ad", checked := Try.checked }
namespace Rows
def none {H : Type} : Left H := { results := [], args := [] }

/-- 'laws.FnPerceptrons': WHATEVER THE INPUT: true; the input reads as it did. -/
def fnPerceptronsSpec : ChangeSpec := { name := "fnPerceptrons", fn := fun _ => fun
  | [d] => { results := [.lit (.bool true)], args := [d] }
  | _ => none }
def fnPerceptronsRow : OpenClaim := { program := "ytlgieeaccigbfaa", sum := "92618ae3644e9941a89ede6851715d0f4dd2aa12bae85b618879f197ec9a63ad", func := "loop.example/g01135/laws.FnPerceptrons", spec := "fnPerceptrons", unfollowed := true, recurses := true, apart := false }
def FnPerceptronsSaid : Prop := fnPerceptronsRow.holds Try.pinned (OpenSpec.ofChange fnPerceptronsSpec)

/-- ITS FALSE NEIGHBOUR: 'it returns false'. Refute it at one input. -/
def fnPerceptronsWrong : ChangeSpec := { name := "fnPerceptrons", fn := fun _ => fun
  | [d] => { results := [.lit (.bool false)], args := [d] }
  | _ => none }
def FnPerceptronsWrongFalsely : Prop := fnPerceptronsRow.holds Try.pinned (OpenSpec.ofChange fnPerceptronsWrong)

/-- 'laws.FnWinnow': WHATEVER THE INPUT: true; the input reads as it did. -/
def fnWinnowSpec : ChangeSpec := { name := "fnWinnow", fn := fun _ => fun
  | [d] => { results := [.lit (.bool true)], args := [d] }
  | _ => none }
def fnWinnowRow : OpenClaim := { program := "ytlgieeaccigbfaa", sum := "92618ae3644e9941a89ede6851715d0f4dd2aa12bae85b618879f197ec9a63ad", func := "loop.example/g01135/laws.FnWinnow", spec := "fnWinnow", unfollowed := true, recurses := true, apart := false }
def FnWinnowSaid : Prop := fnWinnowRow.holds Try.pinned (OpenSpec.ofChange fnWinnowSpec)

/-- ITS FALSE NEIGHBOUR: 'it returns false'. Refute it at one input. -/
def fnWinnowWrong : ChangeSpec := { name := "fnWinnow", fn := fun _ => fun
  | [d] => { results := [.lit (.bool false)], args := [d] }
  | _ => none }
def FnWinnowWrongFalsely : Prop := fnWinnowRow.holds Try.pinned (OpenSpec.ofChange fnWinnowWrong)

/-- 'laws.FnExactPartingBound': WHATEVER THE INPUT: true; the input reads as it did. -/
def fnExactPartingBoundSpec : ChangeSpec := { name := "fnExactPartingBound", fn := fun _ => fun
  | [d1, d2] => { results := [.lit (.bool true)], args := [d1, d2] }
  | _ => none }
def fnExactPartingBoundRow : OpenClaim := { program := "ytlgieeaccigbfaa", sum := "92618ae3644e9941a89ede6851715d0f4dd2aa12bae85b618879f197ec9a63ad", func := "loop.example/g01135/laws.FnExactPartingBound", spec := "fnExactPartingBound", apart := false }
def FnExactPartingBoundSaid : Prop := fnExactPartingBoundRow.holds Try.pinned (OpenSpec.ofChange fnExactPartingBoundSpec)

/-- ITS FALSE NEIGHBOUR: 'it returns false'. Refute it at one input. -/
def fnExactPartingBoundWrong : ChangeSpec := { name := "fnExactPartingBound", fn := fun _ => fun
  | [d1, d2] => { results := [.lit (.bool false)], args := [d1, d2] }
  | _ => none }
def FnExactPartingBoundWrongFalsely : Prop := fnExactPartingBoundRow.holds Try.pinned (OpenSpec.ofChange fnExactPartingBoundWrong)

/-- 'laws.FnExactWidthOf': WHATEVER THE INPUT: true; the input reads as it did. -/
def fnExactWidthOfSpec : ChangeSpec := { name := "fnExactWidthOf", fn := fun _ => fun
  | [d1, d2] => { results := [.lit (.bool true)], args := [d1, d2] }
  | _ => none }
def fnExactWidthOfRow : OpenClaim := { program := "ytlgieeaccigbfaa", sum := "92618ae3644e9941a89ede6851715d0f4dd2aa12bae85b618879f197ec9a63ad", func := "loop.example/g01135/laws.FnExactWidthOf", spec := "fnExactWidthOf", apart := false }
def FnExactWidthOfSaid : Prop := fnExactWidthOfRow.holds Try.pinned (OpenSpec.ofChange fnExactWidthOfSpec)

/-- ITS FALSE NEIGHBOUR: 'it returns false'. Refute it at one input. -/
def fnExactWidthOfWrong : ChangeSpec := { name := "fnExactWidthOf", fn := fun _ => fun
  | [d1, d2] => { results := [.lit (.bool false)], args := [d1, d2] }
  | _ => none }
def FnExactWidthOfWrongFalsely : Prop := fnExactWidthOfRow.holds Try.pinned (OpenSpec.ofChange fnExactWidthOfWrong)

/-- 'laws.FnExactIsCertificate': WHATEVER THE INPUT: true; the input reads as it did. -/
def fnExactIsCertificateSpec : ChangeSpec := { name := "fnExactIsCertificate", fn := fun _ => fun
  | [d1, d2] => { results := [.lit (.bool true)], args := [d1, d2] }
  | _ => none }
def fnExactIsCertificateRow : OpenClaim := { program := "ytlgieeaccigbfaa", sum := "92618ae3644e9941a89ede6851715d0f4dd2aa12bae85b618879f197ec9a63ad", func := "loop.example/g01135/laws.FnExactIsCertificate", spec := "fnExactIsCertificate", unfollowed := true, recurses := true, apart := false }
def FnExactIsCertificateSaid : Prop := fnExactIsCertificateRow.holds Try.pinned (OpenSpec.ofChange fnExactIsCertificateSpec)

/-- ITS FALSE NEIGHBOUR: 'it returns false'. Refute it at one input. -/
def fnExactIsCertificateWrong : ChangeSpec := { name := "fnExactIsCertificate", fn := fun _ => fun
  | [d1, d2] => { results := [.lit (.bool false)], args := [d1, d2] }
  | _ => none }
def FnExactIsCertificateWrongFalsely : Prop := fnExactIsCertificateRow.holds Try.pinned (OpenSpec.ofChange fnExactIsCertificateWrong)

/-- 'laws.FnExactNearestPair': WHATEVER THE INPUT: true; the input reads as it did. -/
def fnExactNearestPairSpec : ChangeSpec := { name := "fnExactNearestPair", fn := fun _ => fun
  | [d] => { results := [.lit (.bool true)], args := [d] }
  | _ => none }
def fnExactNearestPairRow : OpenClaim := { program := "ytlgieeaccigbfaa", sum := "92618ae3644e9941a89ede6851715d0f4dd2aa12bae85b618879f197ec9a63ad", func := "loop.example/g01135/laws.FnExactNearestPair", spec := "fnExactNearestPair", unfollowed := true, recurses := true, apart := false }
def FnExactNearestPairSaid : Prop := fnExactNearestPairRow.holds Try.pinned (OpenSpec.ofChange fnExactNearestPairSpec)

/-- ITS FALSE NEIGHBOUR: 'it returns false'. Refute it at one input. -/
def fnExactNearestPairWrong : ChangeSpec := { name := "fnExactNearestPair", fn := fun _ => fun
  | [d] => { results := [.lit (.bool false)], args := [d] }
  | _ => none }
def FnExactNearestPairWrongFalsely : Prop := fnExactNearestPairRow.holds Try.pinned (OpenSpec.ofChange fnExactNearestPairWrong)

/-- 'laws.FnExactCommonPoint': WHATEVER THE INPUT: true; the input reads as it did. -/
def fnExactCommonPointSpec : ChangeSpec := { name := "fnExactCommonPoint", fn := fun _ => fun
  | [d1, d2] => { results := [.lit (.bool true)], args := [d1, d2] }
  | _ => none }
def fnExactCommonPointRow : OpenClaim := { program := "ytlgieeaccigbfaa", sum := "92618ae3644e9941a89ede6851715d0f4dd2aa12bae85b618879f197ec9a63ad", func := "loop.example/g01135/laws.FnExactCommonPoint", spec := "fnExactCommonPoint", unfollowed := true, recurses := true, apart := false }
def FnExactCommonPointSaid : Prop := fnExactCommonPointRow.holds Try.pinned (OpenSpec.ofChange fnExactCommonPointSpec)

/-- ITS FALSE NEIGHBOUR: 'it returns false'. Refute it at one input. -/
def fnExactCommonPointWrong : ChangeSpec := { name := "fnExactCommonPoint", fn := fun _ => fun
  | [d1, d2] => { results := [.lit (.bool false)], args := [d1, d2] }
  | _ => none }
def FnExactCommonPointWrongFalsely : Prop := fnExactCommonPointRow.holds Try.pinned (OpenSpec.ofChange fnExactCommonPointWrong)

/-- 'laws.FnExactSmallPlane': WHATEVER THE INPUT: true; the input reads as it did. -/
def fnExactSmallPlaneSpec : ChangeSpec := { name := "fnExactSmallPlane", fn := fun _ => fun
  | [d1, d2] => { results := [.lit (.bool true)], args := [d1, d2] }
  | _ => none }
def fnExactSmallPlaneRow : OpenClaim := { program := "ytlgieeaccigbfaa", sum := "92618ae3644e9941a89ede6851715d0f4dd2aa12bae85b618879f197ec9a63ad", func := "loop.example/g01135/laws.FnExactSmallPlane", spec := "fnExactSmallPlane", unfollowed := true, recurses := true, apart := false }
def FnExactSmallPlaneSaid : Prop := fnExactSmallPlaneRow.holds Try.pinned (OpenSpec.ofChange fnExactSmallPlaneSpec)

/-- ITS FALSE NEIGHBOUR: 'it returns false'. Refute it at one input. -/
def fnExactSmallPlaneWrong : ChangeSpec := { name := "fnExactSmallPlane", fn := fun _ => fun
  | [d1, d2] => { results := [.lit (.bool false)], args := [d1, d2] }
  | _ => none }
def FnExactSmallPlaneWrongFalsely : Prop := fnExactSmallPlaneRow.holds Try.pinned (OpenSpec.ofChange fnExactSmallPlaneWrong)

/-- 'laws.FnExactWidestWeights': WHATEVER THE INPUT: true; the input reads as it did. -/
def fnExactWidestWeightsSpec : ChangeSpec := { name := "fnExactWidestWeights", fn := fun _ => fun
  | [d1, d2] => { results := [.lit (.bool true)], args := [d1, d2] }
  | _ => none }
def fnExactWidestWeightsRow : OpenClaim := { program := "ytlgieeaccigbfaa", sum := "92618ae3644e9941a89ede6851715d0f4dd2aa12bae85b618879f197ec9a63ad", func := "loop.example/g01135/laws.FnExactWidestWeights", spec := "fnExactWidestWeights", unfollowed := true, recurses := true, apart := false }
def FnExactWidestWeightsSaid : Prop := fnExactWidestWeightsRow.holds Try.pinned (OpenSpec.ofChange fnExactWidestWeightsSpec)

/-- ITS FALSE NEIGHBOUR: 'it returns false'. Refute it at one input. -/
def fnExactWidestWeightsWrong : ChangeSpec := { name := "fnExactWidestWeights", fn := fun _ => fun
  | [d1, d2] => { results := [.lit (.bool false)], args := [d1, d2] }
  | _ => none }
def FnExactWidestWeightsWrongFalsely : Prop := fnExactWidestWeightsRow.holds Try.pinned (OpenSpec.ofChange fnExactWidestWeightsWrong)

/-- 'laws.FnExactWeightsTable': WHATEVER THE INPUT: true; the input reads as it did. -/
def fnExactWeightsTableSpec : ChangeSpec := { name := "fnExactWeightsTable", fn := fun _ => fun
  | [d1, d2] => { results := [.lit (.bool true)], args := [d1, d2] }
  | _ => none }
def fnExactWeightsTableRow : OpenClaim := { program := "ytlgieeaccigbfaa", sum := "92618ae3644e9941a89ede6851715d0f4dd2aa12bae85b618879f197ec9a63ad", func := "loop.example/g01135/laws.FnExactWeightsTable", spec := "fnExactWeightsTable", unfollowed := true, recurses := true, apart := false }
def FnExactWeightsTableSaid : Prop := fnExactWeightsTableRow.holds Try.pinned (OpenSpec.ofChange fnExactWeightsTableSpec)

/-- ITS FALSE NEIGHBOUR: 'it returns false'. Refute it at one input. -/
def fnExactWeightsTableWrong : ChangeSpec := { name := "fnExactWeightsTable", fn := fun _ => fun
  | [d1, d2] => { results := [.lit (.bool false)], args := [d1, d2] }
  | _ => none }
def FnExactWeightsTableWrongFalsely : Prop := fnExactWeightsTableRow.holds Try.pinned (OpenSpec.ofChange fnExactWeightsTableWrong)

/-- 'laws.FnSides': WHATEVER THE INPUT: true; the input reads as it did. -/
def fnSidesSpec : ChangeSpec := { name := "fnSides", fn := fun _ => fun
  | [d] => { results := [.lit (.bool true)], args := [d] }
  | _ => none }
def fnSidesRow : OpenClaim := { program := "ytlgieeaccigbfaa", sum := "92618ae3644e9941a89ede6851715d0f4dd2aa12bae85b618879f197ec9a63ad", func := "loop.example/g01135/laws.FnSides", spec := "fnSides", unfollowed := true, recurses := true, apart := false }
def FnSidesSaid : Prop := fnSidesRow.holds Try.pinned (OpenSpec.ofChange fnSidesSpec)

/-- ITS FALSE NEIGHBOUR: 'it returns false'. Refute it at one input. -/
def fnSidesWrong : ChangeSpec := { name := "fnSides", fn := fun _ => fun
  | [d] => { results := [.lit (.bool false)], args := [d] }
  | _ => none }
def FnSidesWrongFalsely : Prop := fnSidesRow.holds Try.pinned (OpenSpec.ofChange fnSidesWrong)

/-- 'laws.FnTurns': WHATEVER THE INPUT: true; the input reads as it did. -/
def fnTurnsSpec : ChangeSpec := { name := "fnTurns", fn := fun _ => fun
  | [d] => { results := [.lit (.bool true)], args := [d] }
  | _ => none }
def fnTurnsRow : OpenClaim := { program := "ytlgieeaccigbfaa", sum := "92618ae3644e9941a89ede6851715d0f4dd2aa12bae85b618879f197ec9a63ad", func := "loop.example/g01135/laws.FnTurns", spec := "fnTurns", unfollowed := true, recurses := true, apart := false }
def FnTurnsSaid : Prop := fnTurnsRow.holds Try.pinned (OpenSpec.ofChange fnTurnsSpec)

/-- ITS FALSE NEIGHBOUR: 'it returns false'. Refute it at one input. -/
def fnTurnsWrong : ChangeSpec := { name := "fnTurns", fn := fun _ => fun
  | [d] => { results := [.lit (.bool false)], args := [d] }
  | _ => none }
def FnTurnsWrongFalsely : Prop := fnTurnsRow.holds Try.pinned (OpenSpec.ofChange fnTurnsWrong)

/-- 'laws.FnMistakeBounds': WHATEVER THE INPUT: true; the input reads as it did. -/
def fnMistakeBoundsSpec : ChangeSpec := { name := "fnMistakeBounds", fn := fun _ => fun
  | [d] => { results := [.lit (.bool true)], args := [d] }
  | _ => none }
def fnMistakeBoundsRow : OpenClaim := { program := "ytlgieeaccigbfaa", sum := "92618ae3644e9941a89ede6851715d0f4dd2aa12bae85b618879f197ec9a63ad", func := "loop.example/g01135/laws.FnMistakeBounds", spec := "fnMistakeBounds", unfollowed := true, recurses := true, apart := false }
def FnMistakeBoundsSaid : Prop := fnMistakeBoundsRow.holds Try.pinned (OpenSpec.ofChange fnMistakeBoundsSpec)

/-- ITS FALSE NEIGHBOUR: 'it returns false'. Refute it at one input. -/
def fnMistakeBoundsWrong : ChangeSpec := { name := "fnMistakeBounds", fn := fun _ => fun
  | [d] => { results := [.lit (.bool false)], args := [d] }
  | _ => none }
def FnMistakeBoundsWrongFalsely : Prop := fnMistakeBoundsRow.holds Try.pinned (OpenSpec.ofChange fnMistakeBoundsWrong)

/- THE SECOND FORM. 'bulk': how many values and letters a reading holds, each counted each time it is reached (what is shared counts as often as it is met; a slice's spare places count too). A statement '..UptoSaid' is the law's where the arguments, and the package variables that the reading takes, are together of bulk at most 1048576: NARROWER than '..Said'. Prove '..Said' where nothing that the law and all that it calls make is longer than what came in: it says more and counts as full. Else prove '..UptoSaid'. A law counts once. -/
mutual
def uptoBulk {H : Type} : DataW H → Nat
  | .lit (.string bytes) => bytes.length + 1
  | .lit _ => 1
  | .nil => 1
  | .ptr d => uptoBulk d + 1
  | .slice elems spare => uptoBulkAll elems + uptoBulkAll spare + 1
  | .agg parts => uptoBulkAll parts + 1
  | .iface _ d => uptoBulk d + 1
  | .map entries => uptoBulkEntries entries + 1
  | .held _ => 1
def uptoBulkAll {H : Type} : List (DataW H) → Nat
  | [] => 0
  | d :: r => uptoBulk d + uptoBulkAll r
def uptoBulkEntries {H : Type} : List (Lit × DataW H) → Nat
  | [] => 0
  | x :: r => uptoBulkEntry x + uptoBulkEntries r
def uptoBulkEntry {H : Type} : Lit × DataW H → Nat
  | (.string bytes, d) => bytes.length + uptoBulk d + 1
  | (_, d) => uptoBulk d + 1
 end
def uptoSmall : (H : Type) → List (DataW H) → Bool := fun _ ds => decide (uptoBulkAll ds ≤ 1048576)
def OpenSpec.upto (s : _root_.Go.ChangeSpec) : _root_.Go.OpenSpec := { _root_.Go.OpenSpec.ofChange s with cond := some uptoSmall }

/-- 'laws.FnPerceptrons', WHERE WHAT IT READS IS OF BULK AT MOST 1048576: true; the input reads as it did. -/
def fnPerceptronsUptoRow : OpenClaim := { program := "ytlgieeaccigbfaa", sum := "92618ae3644e9941a89ede6851715d0f4dd2aa12bae85b618879f197ec9a63ad", func := "loop.example/g01135/laws.FnPerceptrons", spec := "fnPerceptrons", unfollowed := true, recurses := true, apart := false, narrowed := true }
def FnPerceptronsUptoSaid : Prop := fnPerceptronsUptoRow.holds Try.pinned (OpenSpec.upto fnPerceptronsSpec)

/-- 'laws.FnWinnow', WHERE WHAT IT READS IS OF BULK AT MOST 1048576: true; the input reads as it did. -/
def fnWinnowUptoRow : OpenClaim := { program := "ytlgieeaccigbfaa", sum := "92618ae3644e9941a89ede6851715d0f4dd2aa12bae85b618879f197ec9a63ad", func := "loop.example/g01135/laws.FnWinnow", spec := "fnWinnow", unfollowed := true, recurses := true, apart := false, narrowed := true }
def FnWinnowUptoSaid : Prop := fnWinnowUptoRow.holds Try.pinned (OpenSpec.upto fnWinnowSpec)

/-- 'laws.FnExactPartingBound', WHERE WHAT IT READS IS OF BULK AT MOST 1048576: true; the input reads as it did. -/
def fnExactPartingBoundUptoRow : OpenClaim := { program := "ytlgieeaccigbfaa", sum := "92618ae3644e9941a89ede6851715d0f4dd2aa12bae85b618879f197ec9a63ad", func := "loop.example/g01135/laws.FnExactPartingBound", spec := "fnExactPartingBound", apart := false, narrowed := true }
def FnExactPartingBoundUptoSaid : Prop := fnExactPartingBoundUptoRow.holds Try.pinned (OpenSpec.upto fnExactPartingBoundSpec)

/-- 'laws.FnExactWidthOf', WHERE WHAT IT READS IS OF BULK AT MOST 1048576: true; the input reads as it did. -/
def fnExactWidthOfUptoRow : OpenClaim := { program := "ytlgieeaccigbfaa", sum := "92618ae3644e9941a89ede6851715d0f4dd2aa12bae85b618879f197ec9a63ad", func := "loop.example/g01135/laws.FnExactWidthOf", spec := "fnExactWidthOf", apart := false, narrowed := true }
def FnExactWidthOfUptoSaid : Prop := fnExactWidthOfUptoRow.holds Try.pinned (OpenSpec.upto fnExactWidthOfSpec)

/-- 'laws.FnExactIsCertificate', WHERE WHAT IT READS IS OF BULK AT MOST 1048576: true; the input reads as it did. -/
def fnExactIsCertificateUptoRow : OpenClaim := { program := "ytlgieeaccigbfaa", sum := "92618ae3644e9941a89ede6851715d0f4dd2aa12bae85b618879f197ec9a63ad", func := "loop.example/g01135/laws.FnExactIsCertificate", spec := "fnExactIsCertificate", unfollowed := true, recurses := true, apart := false, narrowed := true }
def FnExactIsCertificateUptoSaid : Prop := fnExactIsCertificateUptoRow.holds Try.pinned (OpenSpec.upto fnExactIsCertificateSpec)

/-- 'laws.FnExactNearestPair', WHERE WHAT IT READS IS OF BULK AT MOST 1048576: true; the input reads as it did. -/
def fnExactNearestPairUptoRow : OpenClaim := { program := "ytlgieeaccigbfaa", sum := "92618ae3644e9941a89ede6851715d0f4dd2aa12bae85b618879f197ec9a63ad", func := "loop.example/g01135/laws.FnExactNearestPair", spec := "fnExactNearestPair", unfollowed := true, recurses := true, apart := false, narrowed := true }
def FnExactNearestPairUptoSaid : Prop := fnExactNearestPairUptoRow.holds Try.pinned (OpenSpec.upto fnExactNearestPairSpec)

/-- 'laws.FnExactCommonPoint', WHERE WHAT IT READS IS OF BULK AT MOST 1048576: true; the input reads as it did. -/
def fnExactCommonPointUptoRow : OpenClaim := { program := "ytlgieeaccigbfaa", sum := "92618ae3644e9941a89ede6851715d0f4dd2aa12bae85b618879f197ec9a63ad", func := "loop.example/g01135/laws.FnExactCommonPoint", spec := "fnExactCommonPoint", unfollowed := true, recurses := true, apart := false, narrowed := true }
def FnExactCommonPointUptoSaid : Prop := fnExactCommonPointUptoRow.holds Try.pinned (OpenSpec.upto fnExactCommonPointSpec)

/-- 'laws.FnExactSmallPlane', WHERE WHAT IT READS IS OF BULK AT MOST 1048576: true; the input reads as it did. -/
def fnExactSmallPlaneUptoRow : OpenClaim := { program := "ytlgieeaccigbfaa", sum := "92618ae3644e9941a89ede6851715d0f4dd2aa12bae85b618879f197ec9a63ad", func := "loop.example/g01135/laws.FnExactSmallPlane", spec := "fnExactSmallPlane", unfollowed := true, recurses := true, apart := false, narrowed := true }
def FnExactSmallPlaneUptoSaid : Prop := fnExactSmallPlaneUptoRow.holds Try.pinned (OpenSpec.upto fnExactSmallPlaneSpec)

/-- 'laws.FnExactWidestWeights', WHERE WHAT IT READS IS OF BULK AT MOST 1048576: true; the input reads as it did. -/
def fnExactWidestWeightsUptoRow : OpenClaim := { program := "ytlgieeaccigbfaa", sum := "92618ae3644e9941a89ede6851715d0f4dd2aa12bae85b618879f197ec9a63ad", func := "loop.example/g01135/laws.FnExactWidestWeights", spec := "fnExactWidestWeights", unfollowed := true, recurses := true, apart := false, narrowed := true }
def FnExactWidestWeightsUptoSaid : Prop := fnExactWidestWeightsUptoRow.holds Try.pinned (OpenSpec.upto fnExactWidestWeightsSpec)

/-- 'laws.FnExactWeightsTable', WHERE WHAT IT READS IS OF BULK AT MOST 1048576: true; the input reads as it did. -/
def fnExactWeightsTableUptoRow : OpenClaim := { program := "ytlgieeaccigbfaa", sum := "92618ae3644e9941a89ede6851715d0f4dd2aa12bae85b618879f197ec9a63ad", func := "loop.example/g01135/laws.FnExactWeightsTable", spec := "fnExactWeightsTable", unfollowed := true, recurses := true, apart := false, narrowed := true }
def FnExactWeightsTableUptoSaid : Prop := fnExactWeightsTableUptoRow.holds Try.pinned (OpenSpec.upto fnExactWeightsTableSpec)

/-- 'laws.FnSides', WHERE WHAT IT READS IS OF BULK AT MOST 1048576: true; the input reads as it did. -/
def fnSidesUptoRow : OpenClaim := { program := "ytlgieeaccigbfaa", sum := "92618ae3644e9941a89ede6851715d0f4dd2aa12bae85b618879f197ec9a63ad", func := "loop.example/g01135/laws.FnSides", spec := "fnSides", unfollowed := true, recurses := true, apart := false, narrowed := true }
def FnSidesUptoSaid : Prop := fnSidesUptoRow.holds Try.pinned (OpenSpec.upto fnSidesSpec)

/-- 'laws.FnTurns', WHERE WHAT IT READS IS OF BULK AT MOST 1048576: true; the input reads as it did. -/
def fnTurnsUptoRow : OpenClaim := { program := "ytlgieeaccigbfaa", sum := "92618ae3644e9941a89ede6851715d0f4dd2aa12bae85b618879f197ec9a63ad", func := "loop.example/g01135/laws.FnTurns", spec := "fnTurns", unfollowed := true, recurses := true, apart := false, narrowed := true }
def FnTurnsUptoSaid : Prop := fnTurnsUptoRow.holds Try.pinned (OpenSpec.upto fnTurnsSpec)

/-- 'laws.FnMistakeBounds', WHERE WHAT IT READS IS OF BULK AT MOST 1048576: true; the input reads as it did. -/
def fnMistakeBoundsUptoRow : OpenClaim := { program := "ytlgieeaccigbfaa", sum := "92618ae3644e9941a89ede6851715d0f4dd2aa12bae85b618879f197ec9a63ad", func := "loop.example/g01135/laws.FnMistakeBounds", spec := "fnMistakeBounds", unfollowed := true, recurses := true, apart := false, narrowed := true }
def FnMistakeBoundsUptoSaid : Prop := fnMistakeBoundsUptoRow.holds Try.pinned (OpenSpec.upto fnMistakeBoundsSpec)

end Rows
end Go.Proofs.Ytlgieeaccigbfaa
