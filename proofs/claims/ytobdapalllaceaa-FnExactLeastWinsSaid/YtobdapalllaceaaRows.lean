/-
  No cell of these rows narrows 'for every input' (looked for: loops, veiled, ifaces, maps, wideKeys, modest, calm, conditions, laid).
  DERIVED. THE GIVEN ROWS OF THIS SEAT. 12 by the template 'for every input the law returns true; each argument reads behind the call as it read before'; 0 by the template 'total and deterministic' (their statements: YtobdapalllaceaaTotals.lean).
  GIVEN WITH THE SEED: the statements are not yours to turn. If you find one false, say at which input.
  Laid BY PROGRAM, IN A SANDBOX (cutbox-rows.mjs): the forced cells as the released guide's own fill.sh prints them over the translation 8b9e977414e6f0b2… (all of the seat's roots in one cut). By AI agents, Wed Nov 11 2026. No macro, syntax, notation, axiom, sorry.
-/
import Derived.Test.YtobdapalllaceaaChecked
import GoSem.Claim
import GoSem.ClaimJoined
import GoSem.ClaimMapViews
import Derived.JoinedTies
import Derived.KernelRfl
namespace Go.Proofs.Ytobdapalllaceaa
/- THE CELL 'sum', in the pinned program and in every row, IS THE sha256 OF THE DUMP (.gsa) THAT YtobdapalllaceaaProg.lean LOADS. Nothing in Lean hashes anything: it is a label: what it is worth is what the hold of that sum in a sandbox is worth. -/
noncomputable def Try.pinned : Pinned := { name := "ytobdapalllaceaa", sum := "8b9e977414e6f0b2c6dd7bb11556fca4cf7ac693b3daa6dce1b20f97d22d193e", checked := Try.checked }
namespace Rows
def none {H : Type} : Left H := { results := [], args := [] }

/-- 'laws.FnExactPermuteBits': WHATEVER THE INPUT: true; the input reads as it did. -/
def fnExactPermuteBitsSpec : ChangeSpec := { name := "fnExactPermuteBits", fn := fun _ => fun
  | [d1, d2, d3] => { results := [.lit (.bool true)], args := [d1, d2, d3] }
  | _ => none }
def fnExactPermuteBitsRow : OpenClaim := { program := "ytobdapalllaceaa", sum := "8b9e977414e6f0b2c6dd7bb11556fca4cf7ac693b3daa6dce1b20f97d22d193e", func := "loop.example/g01135/laws.FnExactPermuteBits", spec := "fnExactPermuteBits", unfollowed := true, recurses := true, plainKeys := false, apart := false }
def FnExactPermuteBitsSaid : Prop := fnExactPermuteBitsRow.holds Try.pinned (OpenSpec.ofChange fnExactPermuteBitsSpec)

/-- ITS FALSE NEIGHBOUR: 'it returns false'. Refute it at one input. -/
def fnExactPermuteBitsWrong : ChangeSpec := { name := "fnExactPermuteBits", fn := fun _ => fun
  | [d1, d2, d3] => { results := [.lit (.bool false)], args := [d1, d2, d3] }
  | _ => none }
def FnExactPermuteBitsWrongFalsely : Prop := fnExactPermuteBitsRow.holds Try.pinned (OpenSpec.ofChange fnExactPermuteBitsWrong)

/-- 'laws.FnExactPivotalVoter': WHATEVER THE INPUT: true; the input reads as it did. -/
def fnExactPivotalVoterSpec : ChangeSpec := { name := "fnExactPivotalVoter", fn := fun _ => fun
  | [d1, d2] => { results := [.lit (.bool true)], args := [d1, d2] }
  | _ => none }
def fnExactPivotalVoterRow : OpenClaim := { program := "ytobdapalllaceaa", sum := "8b9e977414e6f0b2c6dd7bb11556fca4cf7ac693b3daa6dce1b20f97d22d193e", func := "loop.example/g01135/laws.FnExactPivotalVoter", spec := "fnExactPivotalVoter", unfollowed := true, recurses := true, plainKeys := false, apart := false }
def FnExactPivotalVoterSaid : Prop := fnExactPivotalVoterRow.holds Try.pinned (OpenSpec.ofChange fnExactPivotalVoterSpec)

/-- ITS FALSE NEIGHBOUR: 'it returns false'. Refute it at one input. -/
def fnExactPivotalVoterWrong : ChangeSpec := { name := "fnExactPivotalVoter", fn := fun _ => fun
  | [d1, d2] => { results := [.lit (.bool false)], args := [d1, d2] }
  | _ => none }
def FnExactPivotalVoterWrongFalsely : Prop := fnExactPivotalVoterRow.holds Try.pinned (OpenSpec.ofChange fnExactPivotalVoterWrong)

/-- 'laws.FnExactLeastWins': WHATEVER THE INPUT: true; the input reads as it did. -/
def fnExactLeastWinsSpec : ChangeSpec := { name := "fnExactLeastWins", fn := fun _ => fun
  | [d] => { results := [.lit (.bool true)], args := [d] }
  | _ => none }
def fnExactLeastWinsRow : OpenClaim := { program := "ytobdapalllaceaa", sum := "8b9e977414e6f0b2c6dd7bb11556fca4cf7ac693b3daa6dce1b20f97d22d193e", func := "loop.example/g01135/laws.FnExactLeastWins", spec := "fnExactLeastWins", unfollowed := true, recurses := true, plainKeys := false, apart := false }
def FnExactLeastWinsSaid : Prop := fnExactLeastWinsRow.holds Try.pinned (OpenSpec.ofChange fnExactLeastWinsSpec)

/-- ITS FALSE NEIGHBOUR: 'it returns false'. Refute it at one input. -/
def fnExactLeastWinsWrong : ChangeSpec := { name := "fnExactLeastWins", fn := fun _ => fun
  | [d] => { results := [.lit (.bool false)], args := [d] }
  | _ => none }
def FnExactLeastWinsWrongFalsely : Prop := fnExactLeastWinsRow.holds Try.pinned (OpenSpec.ofChange fnExactLeastWinsWrong)

/-- 'laws.FnExactGreatestLosses': WHATEVER THE INPUT: true; the input reads as it did. -/
def fnExactGreatestLossesSpec : ChangeSpec := { name := "fnExactGreatestLosses", fn := fun _ => fun
  | [d] => { results := [.lit (.bool true)], args := [d] }
  | _ => none }
def fnExactGreatestLossesRow : OpenClaim := { program := "ytobdapalllaceaa", sum := "8b9e977414e6f0b2c6dd7bb11556fca4cf7ac693b3daa6dce1b20f97d22d193e", func := "loop.example/g01135/laws.FnExactGreatestLosses", spec := "fnExactGreatestLosses", unfollowed := true, recurses := true, plainKeys := false, apart := false }
def FnExactGreatestLossesSaid : Prop := fnExactGreatestLossesRow.holds Try.pinned (OpenSpec.ofChange fnExactGreatestLossesSpec)

/-- ITS FALSE NEIGHBOUR: 'it returns false'. Refute it at one input. -/
def fnExactGreatestLossesWrong : ChangeSpec := { name := "fnExactGreatestLosses", fn := fun _ => fun
  | [d] => { results := [.lit (.bool false)], args := [d] }
  | _ => none }
def FnExactGreatestLossesWrongFalsely : Prop := fnExactGreatestLossesRow.holds Try.pinned (OpenSpec.ofChange fnExactGreatestLossesWrong)

/-- 'laws.FnExactSmallPlane': WHATEVER THE INPUT: true; the input reads as it did. -/
def fnExactSmallPlaneSpec : ChangeSpec := { name := "fnExactSmallPlane", fn := fun _ => fun
  | [d1, d2] => { results := [.lit (.bool true)], args := [d1, d2] }
  | _ => none }
def fnExactSmallPlaneRow : OpenClaim := { program := "ytobdapalllaceaa", sum := "8b9e977414e6f0b2c6dd7bb11556fca4cf7ac693b3daa6dce1b20f97d22d193e", func := "loop.example/g01135/laws.FnExactSmallPlane", spec := "fnExactSmallPlane", unfollowed := true, recurses := true, plainKeys := false, apart := false }
def FnExactSmallPlaneSaid : Prop := fnExactSmallPlaneRow.holds Try.pinned (OpenSpec.ofChange fnExactSmallPlaneSpec)

/-- ITS FALSE NEIGHBOUR: 'it returns false'. Refute it at one input. -/
def fnExactSmallPlaneWrong : ChangeSpec := { name := "fnExactSmallPlane", fn := fun _ => fun
  | [d1, d2] => { results := [.lit (.bool false)], args := [d1, d2] }
  | _ => none }
def FnExactSmallPlaneWrongFalsely : Prop := fnExactSmallPlaneRow.holds Try.pinned (OpenSpec.ofChange fnExactSmallPlaneWrong)

/-- 'laws.FnExactVoteOf': WHATEVER THE INPUT: true; the input reads as it did. -/
def fnExactVoteOfSpec : ChangeSpec := { name := "fnExactVoteOf", fn := fun _ => fun
  | [d1, d2] => { results := [.lit (.bool true)], args := [d1, d2] }
  | _ => none }
def fnExactVoteOfRow : OpenClaim := { program := "ytobdapalllaceaa", sum := "8b9e977414e6f0b2c6dd7bb11556fca4cf7ac693b3daa6dce1b20f97d22d193e", func := "loop.example/g01135/laws.FnExactVoteOf", spec := "fnExactVoteOf", unfollowed := true, recurses := true, plainKeys := false, apart := false }
def FnExactVoteOfSaid : Prop := fnExactVoteOfRow.holds Try.pinned (OpenSpec.ofChange fnExactVoteOfSpec)

/-- ITS FALSE NEIGHBOUR: 'it returns false'. Refute it at one input. -/
def fnExactVoteOfWrong : ChangeSpec := { name := "fnExactVoteOf", fn := fun _ => fun
  | [d1, d2] => { results := [.lit (.bool false)], args := [d1, d2] }
  | _ => none }
def FnExactVoteOfWrongFalsely : Prop := fnExactVoteOfRow.holds Try.pinned (OpenSpec.ofChange fnExactVoteOfWrong)

/-- 'laws.FnExactWidestWeights': WHATEVER THE INPUT: true; the input reads as it did. -/
def fnExactWidestWeightsSpec : ChangeSpec := { name := "fnExactWidestWeights", fn := fun _ => fun
  | [d1, d2] => { results := [.lit (.bool true)], args := [d1, d2] }
  | _ => none }
def fnExactWidestWeightsRow : OpenClaim := { program := "ytobdapalllaceaa", sum := "8b9e977414e6f0b2c6dd7bb11556fca4cf7ac693b3daa6dce1b20f97d22d193e", func := "loop.example/g01135/laws.FnExactWidestWeights", spec := "fnExactWidestWeights", unfollowed := true, recurses := true, plainKeys := false, apart := false }
def FnExactWidestWeightsSaid : Prop := fnExactWidestWeightsRow.holds Try.pinned (OpenSpec.ofChange fnExactWidestWeightsSpec)

/-- ITS FALSE NEIGHBOUR: 'it returns false'. Refute it at one input. -/
def fnExactWidestWeightsWrong : ChangeSpec := { name := "fnExactWidestWeights", fn := fun _ => fun
  | [d1, d2] => { results := [.lit (.bool false)], args := [d1, d2] }
  | _ => none }
def FnExactWidestWeightsWrongFalsely : Prop := fnExactWidestWeightsRow.holds Try.pinned (OpenSpec.ofChange fnExactWidestWeightsWrong)

/-- 'laws.FnExactJoinSamples': WHATEVER THE INPUT: true; the input reads as it did. -/
def fnExactJoinSamplesSpec : ChangeSpec := { name := "fnExactJoinSamples", fn := fun _ => fun
  | [d1, d2] => { results := [.lit (.bool true)], args := [d1, d2] }
  | _ => none }
def fnExactJoinSamplesRow : OpenClaim := { program := "ytobdapalllaceaa", sum := "8b9e977414e6f0b2c6dd7bb11556fca4cf7ac693b3daa6dce1b20f97d22d193e", func := "loop.example/g01135/laws.FnExactJoinSamples", spec := "fnExactJoinSamples", unfollowed := true, recurses := true, plainKeys := false, apart := false }
def FnExactJoinSamplesSaid : Prop := fnExactJoinSamplesRow.holds Try.pinned (OpenSpec.ofChange fnExactJoinSamplesSpec)

/-- ITS FALSE NEIGHBOUR: 'it returns false'. Refute it at one input. -/
def fnExactJoinSamplesWrong : ChangeSpec := { name := "fnExactJoinSamples", fn := fun _ => fun
  | [d1, d2] => { results := [.lit (.bool false)], args := [d1, d2] }
  | _ => none }
def FnExactJoinSamplesWrongFalsely : Prop := fnExactJoinSamplesRow.holds Try.pinned (OpenSpec.ofChange fnExactJoinSamplesWrong)

/-- 'laws.FnExactPocketPlane': WHATEVER THE INPUT: true; the input reads as it did. -/
def fnExactPocketPlaneSpec : ChangeSpec := { name := "fnExactPocketPlane", fn := fun _ => fun
  | [d1, d2] => { results := [.lit (.bool true)], args := [d1, d2] }
  | _ => none }
def fnExactPocketPlaneRow : OpenClaim := { program := "ytobdapalllaceaa", sum := "8b9e977414e6f0b2c6dd7bb11556fca4cf7ac693b3daa6dce1b20f97d22d193e", func := "loop.example/g01135/laws.FnExactPocketPlane", spec := "fnExactPocketPlane", unfollowed := true, recurses := true, plainKeys := false, apart := false }
def FnExactPocketPlaneSaid : Prop := fnExactPocketPlaneRow.holds Try.pinned (OpenSpec.ofChange fnExactPocketPlaneSpec)

/-- ITS FALSE NEIGHBOUR: 'it returns false'. Refute it at one input. -/
def fnExactPocketPlaneWrong : ChangeSpec := { name := "fnExactPocketPlane", fn := fun _ => fun
  | [d1, d2] => { results := [.lit (.bool false)], args := [d1, d2] }
  | _ => none }
def FnExactPocketPlaneWrongFalsely : Prop := fnExactPocketPlaneRow.holds Try.pinned (OpenSpec.ofChange fnExactPocketPlaneWrong)

/-- 'laws.FnExactMistakeNumber': WHATEVER THE INPUT: true; the input reads as it did. -/
def fnExactMistakeNumberSpec : ChangeSpec := { name := "fnExactMistakeNumber", fn := fun _ => fun
  | [d] => { results := [.lit (.bool true)], args := [d] }
  | _ => none }
def fnExactMistakeNumberRow : OpenClaim := { program := "ytobdapalllaceaa", sum := "8b9e977414e6f0b2c6dd7bb11556fca4cf7ac693b3daa6dce1b20f97d22d193e", func := "loop.example/g01135/laws.FnExactMistakeNumber", spec := "fnExactMistakeNumber", unfollowed := true, recurses := true, plainKeys := false, apart := false }
def FnExactMistakeNumberSaid : Prop := fnExactMistakeNumberRow.holds Try.pinned (OpenSpec.ofChange fnExactMistakeNumberSpec)

/-- ITS FALSE NEIGHBOUR: 'it returns false'. Refute it at one input. -/
def fnExactMistakeNumberWrong : ChangeSpec := { name := "fnExactMistakeNumber", fn := fun _ => fun
  | [d] => { results := [.lit (.bool false)], args := [d] }
  | _ => none }
def FnExactMistakeNumberWrongFalsely : Prop := fnExactMistakeNumberRow.holds Try.pinned (OpenSpec.ofChange fnExactMistakeNumberWrong)

/-- 'laws.FnExactQuestionNumber': WHATEVER THE INPUT: true; the input reads as it did. -/
def fnExactQuestionNumberSpec : ChangeSpec := { name := "fnExactQuestionNumber", fn := fun _ => fun
  | [d] => { results := [.lit (.bool true)], args := [d] }
  | _ => none }
def fnExactQuestionNumberRow : OpenClaim := { program := "ytobdapalllaceaa", sum := "8b9e977414e6f0b2c6dd7bb11556fca4cf7ac693b3daa6dce1b20f97d22d193e", func := "loop.example/g01135/laws.FnExactQuestionNumber", spec := "fnExactQuestionNumber", unfollowed := true, recurses := true, plainKeys := false, apart := false }
def FnExactQuestionNumberSaid : Prop := fnExactQuestionNumberRow.holds Try.pinned (OpenSpec.ofChange fnExactQuestionNumberSpec)

/-- ITS FALSE NEIGHBOUR: 'it returns false'. Refute it at one input. -/
def fnExactQuestionNumberWrong : ChangeSpec := { name := "fnExactQuestionNumber", fn := fun _ => fun
  | [d] => { results := [.lit (.bool false)], args := [d] }
  | _ => none }
def FnExactQuestionNumberWrongFalsely : Prop := fnExactQuestionNumberRow.holds Try.pinned (OpenSpec.ofChange fnExactQuestionNumberWrong)

/-- 'laws.FnExactFirstQuestion': WHATEVER THE INPUT: true; the input reads as it did. -/
def fnExactFirstQuestionSpec : ChangeSpec := { name := "fnExactFirstQuestion", fn := fun _ => fun
  | [d] => { results := [.lit (.bool true)], args := [d] }
  | _ => none }
def fnExactFirstQuestionRow : OpenClaim := { program := "ytobdapalllaceaa", sum := "8b9e977414e6f0b2c6dd7bb11556fca4cf7ac693b3daa6dce1b20f97d22d193e", func := "loop.example/g01135/laws.FnExactFirstQuestion", spec := "fnExactFirstQuestion", unfollowed := true, recurses := true, plainKeys := false, apart := false }
def FnExactFirstQuestionSaid : Prop := fnExactFirstQuestionRow.holds Try.pinned (OpenSpec.ofChange fnExactFirstQuestionSpec)

/-- ITS FALSE NEIGHBOUR: 'it returns false'. Refute it at one input. -/
def fnExactFirstQuestionWrong : ChangeSpec := { name := "fnExactFirstQuestion", fn := fun _ => fun
  | [d] => { results := [.lit (.bool false)], args := [d] }
  | _ => none }
def FnExactFirstQuestionWrongFalsely : Prop := fnExactFirstQuestionRow.holds Try.pinned (OpenSpec.ofChange fnExactFirstQuestionWrong)

/- THE SECOND FORM. 'bulk': how many values and letters a reading holds, each counted each time it is reached (what is shared counts as often as it is met; a slice's spare places count too). A statement '..UptoSaid' is the law's where the arguments, and the package variables that the reading takes, are together of bulk at most 1048576: NARROWER than '..Said'. Prove '..Said' where nothing that the law and all that it calls make is longer than what came in: it says more and counts as full. Else prove '..UptoSaid'. A law counts once. -/
mutual
def uptoBulk {H : Type} : DataW H → Nat
  | .lit (.string bytes) => bytes.length + 1
  | .lit _ => 1
  | .nil => 1
  | .ptr d => uptoBulk d + 1
  | .slice elems spare => uptoBulkAll elems + uptoBulkAll spare + 1
  | .agg parts => uptoBulkAll parts + 1
  | .iface _ d => uptoBulk d + 1
  | .map entries => uptoBulkEntries entries + 1
  | .held _ => 1
def uptoBulkAll {H : Type} : List (DataW H) → Nat
  | [] => 0
  | d :: r => uptoBulk d + uptoBulkAll r
def uptoBulkEntries {H : Type} : List (Lit × DataW H) → Nat
  | [] => 0
  | x :: r => uptoBulkEntry x + uptoBulkEntries r
def uptoBulkEntry {H : Type} : Lit × DataW H → Nat
  | (.string bytes, d) => bytes.length + uptoBulk d + 1
  | (_, d) => uptoBulk d + 1
 end
def uptoSmall : (H : Type) → List (DataW H) → Bool := fun _ ds => decide (uptoBulkAll ds ≤ 1048576)
def OpenSpec.upto (s : _root_.Go.ChangeSpec) : _root_.Go.OpenSpec := { _root_.Go.OpenSpec.ofChange s with cond := some uptoSmall }

/-- 'laws.FnExactPermuteBits', WHERE WHAT IT READS IS OF BULK AT MOST 1048576: true; the input reads as it did. -/
def fnExactPermuteBitsUptoRow : OpenClaim := { program := "ytobdapalllaceaa", sum := "8b9e977414e6f0b2c6dd7bb11556fca4cf7ac693b3daa6dce1b20f97d22d193e", func := "loop.example/g01135/laws.FnExactPermuteBits", spec := "fnExactPermuteBits", unfollowed := true, recurses := true, plainKeys := false, apart := false, narrowed := true }
def FnExactPermuteBitsUptoSaid : Prop := fnExactPermuteBitsUptoRow.holds Try.pinned (OpenSpec.upto fnExactPermuteBitsSpec)

/-- 'laws.FnExactPivotalVoter', WHERE WHAT IT READS IS OF BULK AT MOST 1048576: true; the input reads as it did. -/
def fnExactPivotalVoterUptoRow : OpenClaim := { program := "ytobdapalllaceaa", sum := "8b9e977414e6f0b2c6dd7bb11556fca4cf7ac693b3daa6dce1b20f97d22d193e", func := "loop.example/g01135/laws.FnExactPivotalVoter", spec := "fnExactPivotalVoter", unfollowed := true, recurses := true, plainKeys := false, apart := false, narrowed := true }
def FnExactPivotalVoterUptoSaid : Prop := fnExactPivotalVoterUptoRow.holds Try.pinned (OpenSpec.upto fnExactPivotalVoterSpec)

/-- 'laws.FnExactLeastWins', WHERE WHAT IT READS IS OF BULK AT MOST 1048576: true; the input reads as it did. -/
def fnExactLeastWinsUptoRow : OpenClaim := { program := "ytobdapalllaceaa", sum := "8b9e977414e6f0b2c6dd7bb11556fca4cf7ac693b3daa6dce1b20f97d22d193e", func := "loop.example/g01135/laws.FnExactLeastWins", spec := "fnExactLeastWins", unfollowed := true, recurses := true, plainKeys := false, apart := false, narrowed := true }
def FnExactLeastWinsUptoSaid : Prop := fnExactLeastWinsUptoRow.holds Try.pinned (OpenSpec.upto fnExactLeastWinsSpec)

/-- 'laws.FnExactGreatestLosses', WHERE WHAT IT READS IS OF BULK AT MOST 1048576: true; the input reads as it did. -/
def fnExactGreatestLossesUptoRow : OpenClaim := { program := "ytobdapalllaceaa", sum := "8b9e977414e6f0b2c6dd7bb11556fca4cf7ac693b3daa6dce1b20f97d22d193e", func := "loop.example/g01135/laws.FnExactGreatestLosses", spec := "fnExactGreatestLosses", unfollowed := true, recurses := true, plainKeys := false, apart := false, narrowed := true }
def FnExactGreatestLossesUptoSaid : Prop := fnExactGreatestLossesUptoRow.holds Try.pinned (OpenSpec.upto fnExactGreatestLossesSpec)

/-- 'laws.FnExactSmallPlane', WHERE WHAT IT READS IS OF BULK AT MOST 1048576: true; the input reads as it did. -/
def fnExactSmallPlaneUptoRow : OpenClaim := { program := "ytobdapalllaceaa", sum := "8b9e977414e6f0b2c6dd7bb11556fca4cf7ac693b3daa6dce1b20f97d22d193e", func := "loop.example/g01135/laws.FnExactSmallPlane", spec := "fnExactSmallPlane", unfollowed := true, recurses := true, plainKeys := false, apart := false, narrowed := true }
def FnExactSmallPlaneUptoSaid : Prop := fnExactSmallPlaneUptoRow.holds Try.pinned (OpenSpec.upto fnExactSmallPlaneSpec)

/-- 'laws.FnExactVoteOf', WHERE WHAT IT READS IS OF BULK AT MOST 1048576: true; the input reads as it did. -/
def fnExactVoteOfUptoRow : OpenClaim := { program := "ytobdapalllaceaa", sum := "8b9e977414e6f0b2c6dd7bb11556fca4cf7ac693b3daa6dce1b20f97d22d193e", func := "loop.example/g01135/laws.FnExactVoteOf", spec := "fnExactVoteOf", unfollowed := true, recurses := true, plainKeys := false, apart := false, narrowed := true }
def FnExactVoteOfUptoSaid : Prop := fnExactVoteOfUptoRow.holds Try.pinned (OpenSpec.upto fnExactVoteOfSpec)

/-- 'laws.FnExactWidestWeights', WHERE WHAT IT READS IS OF BULK AT MOST 1048576: true; the input reads as it did. -/
def fnExactWidestWeightsUptoRow : OpenClaim := { program := "ytobdapalllaceaa", sum := "8b9e977414e6f0b2c6dd7bb11556fca4cf7ac693b3daa6dce1b20f97d22d193e", func := "loop.example/g01135/laws.FnExactWidestWeights", spec := "fnExactWidestWeights", unfollowed := true, recurses := true, plainKeys := false, apart := false, narrowed := true }
def FnExactWidestWeightsUptoSaid : Prop := fnExactWidestWeightsUptoRow.holds Try.pinned (OpenSpec.upto fnExactWidestWeightsSpec)

/-- 'laws.FnExactJoinSamples', WHERE WHAT IT READS IS OF BULK AT MOST 1048576: true; the input reads as it did. -/
def fnExactJoinSamplesUptoRow : OpenClaim := { program := "ytobdapalllaceaa", sum := "8b9e977414e6f0b2c6dd7bb11556fca4cf7ac693b3daa6dce1b20f97d22d193e", func := "loop.example/g01135/laws.FnExactJoinSamples", spec := "fnExactJoinSamples", unfollowed := true, recurses := true, plainKeys := false, apart := false, narrowed := true }
def FnExactJoinSamplesUptoSaid : Prop := fnExactJoinSamplesUptoRow.holds Try.pinned (OpenSpec.upto fnExactJoinSamplesSpec)

/-- 'laws.FnExactPocketPlane', WHERE WHAT IT READS IS OF BULK AT MOST 1048576: true; the input reads as it did. -/
def fnExactPocketPlaneUptoRow : OpenClaim := { program := "ytobdapalllaceaa", sum := "8b9e977414e6f0b2c6dd7bb11556fca4cf7ac693b3daa6dce1b20f97d22d193e", func := "loop.example/g01135/laws.FnExactPocketPlane", spec := "fnExactPocketPlane", unfollowed := true, recurses := true, plainKeys := false, apart := false, narrowed := true }
def FnExactPocketPlaneUptoSaid : Prop := fnExactPocketPlaneUptoRow.holds Try.pinned (OpenSpec.upto fnExactPocketPlaneSpec)

/-- 'laws.FnExactMistakeNumber', WHERE WHAT IT READS IS OF BULK AT MOST 1048576: true; the input reads as it did. -/
def fnExactMistakeNumberUptoRow : OpenClaim := { program := "ytobdapalllaceaa", sum := "8b9e977414e6f0b2c6dd7bb11556fca4cf7ac693b3daa6dce1b20f97d22d193e", func := "loop.example/g01135/laws.FnExactMistakeNumber", spec := "fnExactMistakeNumber", unfollowed := true, recurses := true, plainKeys := false, apart := false, narrowed := true }
def FnExactMistakeNumberUptoSaid : Prop := fnExactMistakeNumberUptoRow.holds Try.pinned (OpenSpec.upto fnExactMistakeNumberSpec)

/-- 'laws.FnExactQuestionNumber', WHERE WHAT IT READS IS OF BULK AT MOST 1048576: true; the input reads as it did. -/
def fnExactQuestionNumberUptoRow : OpenClaim := { program := "ytobdapalllaceaa", sum := "8b9e977414e6f0b2c6dd7bb11556fca4cf7ac693b3daa6dce1b20f97d22d193e", func := "loop.example/g01135/laws.FnExactQuestionNumber", spec := "fnExactQuestionNumber", unfollowed := true, recurses := true, plainKeys := false, apart := false, narrowed := true }
def FnExactQuestionNumberUptoSaid : Prop := fnExactQuestionNumberUptoRow.holds Try.pinned (OpenSpec.upto fnExactQuestionNumberSpec)

/-- 'laws.FnExactFirstQuestion', WHERE WHAT IT READS IS OF BULK AT MOST 1048576: true; the input reads as it did. -/
def fnExactFirstQuestionUptoRow : OpenClaim := { program := "ytobdapalllaceaa", sum := "8b9e977414e6f0b2c6dd7bb11556fca4cf7ac693b3daa6dce1b20f97d22d193e", func := "loop.example/g01135/laws.FnExactFirstQuestion", spec := "fnExactFirstQuestion", unfollowed := true, recurses := true, plainKeys := false, apart := false, narrowed := true }
def FnExactFirstQuestionUptoSaid : Prop := fnExactFirstQuestionUptoRow.holds Try.pinned (OpenSpec.upto fnExactFirstQuestionSpec)

end Rows
end Go.Proofs.Ytobdapalllaceaa
