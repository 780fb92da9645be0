/-
  No cell of these rows narrows 'for every input' (looked for: loops, veiled, ifaces, maps, wideKeys, modest, calm, conditions, laid).
  DERIVED. THE GIVEN ROWS OF THIS SEAT. 11 by the template 'for every input the law returns true; each argument reads behind the call as it read before'; 0 by the template 'total and deterministic' (their statements: YtldimbipjjjghaaTotals.lean).
  GIVEN WITH THE SEED: the statements are not yours to turn. If you find one false, say at which input.
  Laid BY PROGRAM, IN A SANDBOX (cutbox-rows.mjs): the forced cells as the released guide's own fill.sh prints them over the translation 97e0df26cc369491… (all of the seat's roots in one cut). By AI agents, Wed Nov 11 2026. No macro, syntax, notation, axiom, sorry.
-/
import Derived.Test.YtldimbipjjjghaaChecked
import GoSem.Claim
import GoSem.ClaimJoined
import GoSem.ClaimMapViews
import Derived.JoinedTies
import Derived.KernelRfl
namespace Go.Proofs.Ytldimbipjjjghaa
/- THE CELL 'sum', in the pinned program and in every row, IS THE sha256 OF THE DUMP (.gsa) THAT YtldimbipjjjghaaProg.lean LOADS. Nothing in Lean hashes anything: it is a label: what it is worth is what the hold of that sum in a sandbox is worth. -/
noncomputable def Try.pinned : Pinned := { name := "ytldimbipjjjghaa", sum := "97e0df26cc369491d3b4d3a79bf12c8e95b8f7b48714c3ef642d735b7805da25", checked := Try.checked }
namespace Rows
def none {H : Type} : Left H := { results := [], args := [] }

/-- 'laws.FnExactPocketPlane': WHATEVER THE INPUT: true; the input reads as it did. -/
def fnExactPocketPlaneSpec : ChangeSpec := { name := "fnExactPocketPlane", fn := fun _ => fun
  | [d1, d2] => { results := [.lit (.bool true)], args := [d1, d2] }
  | _ => none }
def fnExactPocketPlaneRow : OpenClaim := { program := "ytldimbipjjjghaa", sum := "97e0df26cc369491d3b4d3a79bf12c8e95b8f7b48714c3ef642d735b7805da25", func := "loop.example/g01135/laws.FnExactPocketPlane", spec := "fnExactPocketPlane", unfollowed := true, recurses := true, plainKeys := false, apart := false }
def FnExactPocketPlaneSaid : Prop := fnExactPocketPlaneRow.holds Try.pinned (OpenSpec.ofChange fnExactPocketPlaneSpec)

/-- ITS FALSE NEIGHBOUR: 'it returns false'. Refute it at one input. -/
def fnExactPocketPlaneWrong : ChangeSpec := { name := "fnExactPocketPlane", fn := fun _ => fun
  | [d1, d2] => { results := [.lit (.bool false)], args := [d1, d2] }
  | _ => none }
def FnExactPocketPlaneWrongFalsely : Prop := fnExactPocketPlaneRow.holds Try.pinned (OpenSpec.ofChange fnExactPocketPlaneWrong)

/-- 'laws.FnExactJoinSamples': WHATEVER THE INPUT: true; the input reads as it did. -/
def fnExactJoinSamplesSpec : ChangeSpec := { name := "fnExactJoinSamples", fn := fun _ => fun
  | [d1, d2] => { results := [.lit (.bool true)], args := [d1, d2] }
  | _ => none }
def fnExactJoinSamplesRow : OpenClaim := { program := "ytldimbipjjjghaa", sum := "97e0df26cc369491d3b4d3a79bf12c8e95b8f7b48714c3ef642d735b7805da25", func := "loop.example/g01135/laws.FnExactJoinSamples", spec := "fnExactJoinSamples", unfollowed := true, recurses := true, plainKeys := false, apart := false }
def FnExactJoinSamplesSaid : Prop := fnExactJoinSamplesRow.holds Try.pinned (OpenSpec.ofChange fnExactJoinSamplesSpec)

/-- ITS FALSE NEIGHBOUR: 'it returns false'. Refute it at one input. -/
def fnExactJoinSamplesWrong : ChangeSpec := { name := "fnExactJoinSamples", fn := fun _ => fun
  | [d1, d2] => { results := [.lit (.bool false)], args := [d1, d2] }
  | _ => none }
def FnExactJoinSamplesWrongFalsely : Prop := fnExactJoinSamplesRow.holds Try.pinned (OpenSpec.ofChange fnExactJoinSamplesWrong)

/-- 'laws.FnExactCommonPoint': WHATEVER THE INPUT: true; the input reads as it did. -/
def fnExactCommonPointSpec : ChangeSpec := { name := "fnExactCommonPoint", fn := fun _ => fun
  | [d1, d2] => { results := [.lit (.bool true)], args := [d1, d2] }
  | _ => none }
def fnExactCommonPointRow : OpenClaim := { program := "ytldimbipjjjghaa", sum := "97e0df26cc369491d3b4d3a79bf12c8e95b8f7b48714c3ef642d735b7805da25", func := "loop.example/g01135/laws.FnExactCommonPoint", spec := "fnExactCommonPoint", unfollowed := true, recurses := true, plainKeys := false, apart := false }
def FnExactCommonPointSaid : Prop := fnExactCommonPointRow.holds Try.pinned (OpenSpec.ofChange fnExactCommonPointSpec)

/-- ITS FALSE NEIGHBOUR: 'it returns false'. Refute it at one input. -/
def fnExactCommonPointWrong : ChangeSpec := { name := "fnExactCommonPoint", fn := fun _ => fun
  | [d1, d2] => { results := [.lit (.bool false)], args := [d1, d2] }
  | _ => none }
def FnExactCommonPointWrongFalsely : Prop := fnExactCommonPointRow.holds Try.pinned (OpenSpec.ofChange fnExactCommonPointWrong)

/-- 'laws.FnExactWeightsTable': WHATEVER THE INPUT: true; the input reads as it did. -/
def fnExactWeightsTableSpec : ChangeSpec := { name := "fnExactWeightsTable", fn := fun _ => fun
  | [d1, d2] => { results := [.lit (.bool true)], args := [d1, d2] }
  | _ => none }
def fnExactWeightsTableRow : OpenClaim := { program := "ytldimbipjjjghaa", sum := "97e0df26cc369491d3b4d3a79bf12c8e95b8f7b48714c3ef642d735b7805da25", func := "loop.example/g01135/laws.FnExactWeightsTable", spec := "fnExactWeightsTable", unfollowed := true, recurses := true, plainKeys := false, apart := false }
def FnExactWeightsTableSaid : Prop := fnExactWeightsTableRow.holds Try.pinned (OpenSpec.ofChange fnExactWeightsTableSpec)

/-- ITS FALSE NEIGHBOUR: 'it returns false'. Refute it at one input. -/
def fnExactWeightsTableWrong : ChangeSpec := { name := "fnExactWeightsTable", fn := fun _ => fun
  | [d1, d2] => { results := [.lit (.bool false)], args := [d1, d2] }
  | _ => none }
def FnExactWeightsTableWrongFalsely : Prop := fnExactWeightsTableRow.holds Try.pinned (OpenSpec.ofChange fnExactWeightsTableWrong)

/-- 'laws.FnExactSmallPlane': WHATEVER THE INPUT: true; the input reads as it did. -/
def fnExactSmallPlaneSpec : ChangeSpec := { name := "fnExactSmallPlane", fn := fun _ => fun
  | [d1, d2] => { results := [.lit (.bool true)], args := [d1, d2] }
  | _ => none }
def fnExactSmallPlaneRow : OpenClaim := { program := "ytldimbipjjjghaa", sum := "97e0df26cc369491d3b4d3a79bf12c8e95b8f7b48714c3ef642d735b7805da25", func := "loop.example/g01135/laws.FnExactSmallPlane", spec := "fnExactSmallPlane", unfollowed := true, recurses := true, plainKeys := false, apart := false }
def FnExactSmallPlaneSaid : Prop := fnExactSmallPlaneRow.holds Try.pinned (OpenSpec.ofChange fnExactSmallPlaneSpec)

/-- ITS FALSE NEIGHBOUR: 'it returns false'. Refute it at one input. -/
def fnExactSmallPlaneWrong : ChangeSpec := { name := "fnExactSmallPlane", fn := fun _ => fun
  | [d1, d2] => { results := [.lit (.bool false)], args := [d1, d2] }
  | _ => none }
def FnExactSmallPlaneWrongFalsely : Prop := fnExactSmallPlaneRow.holds Try.pinned (OpenSpec.ofChange fnExactSmallPlaneWrong)

/-- 'laws.FnExactWidestWeights': WHATEVER THE INPUT: true; the input reads as it did. -/
def fnExactWidestWeightsSpec : ChangeSpec := { name := "fnExactWidestWeights", fn := fun _ => fun
  | [d1, d2] => { results := [.lit (.bool true)], args := [d1, d2] }
  | _ => none }
def fnExactWidestWeightsRow : OpenClaim := { program := "ytldimbipjjjghaa", sum := "97e0df26cc369491d3b4d3a79bf12c8e95b8f7b48714c3ef642d735b7805da25", func := "loop.example/g01135/laws.FnExactWidestWeights", spec := "fnExactWidestWeights", unfollowed := true, recurses := true, plainKeys := false, apart := false }
def FnExactWidestWeightsSaid : Prop := fnExactWidestWeightsRow.holds Try.pinned (OpenSpec.ofChange fnExactWidestWeightsSpec)

/-- ITS FALSE NEIGHBOUR: 'it returns false'. Refute it at one input. -/
def fnExactWidestWeightsWrong : ChangeSpec := { name := "fnExactWidestWeights", fn := fun _ => fun
  | [d1, d2] => { results := [.lit (.bool false)], args := [d1, d2] }
  | _ => none }
def FnExactWidestWeightsWrongFalsely : Prop := fnExactWidestWeightsRow.holds Try.pinned (OpenSpec.ofChange fnExactWidestWeightsWrong)

/-- 'laws.FnExactLeastPlane': WHATEVER THE INPUT: true; the input reads as it did. -/
def fnExactLeastPlaneSpec : ChangeSpec := { name := "fnExactLeastPlane", fn := fun _ => fun
  | [d1, d2] => { results := [.lit (.bool true)], args := [d1, d2] }
  | _ => none }
def fnExactLeastPlaneRow : OpenClaim := { program := "ytldimbipjjjghaa", sum := "97e0df26cc369491d3b4d3a79bf12c8e95b8f7b48714c3ef642d735b7805da25", func := "loop.example/g01135/laws.FnExactLeastPlane", spec := "fnExactLeastPlane", unfollowed := true, recurses := true, plainKeys := false, apart := false }
def FnExactLeastPlaneSaid : Prop := fnExactLeastPlaneRow.holds Try.pinned (OpenSpec.ofChange fnExactLeastPlaneSpec)

/-- ITS FALSE NEIGHBOUR: 'it returns false'. Refute it at one input. -/
def fnExactLeastPlaneWrong : ChangeSpec := { name := "fnExactLeastPlane", fn := fun _ => fun
  | [d1, d2] => { results := [.lit (.bool false)], args := [d1, d2] }
  | _ => none }
def FnExactLeastPlaneWrongFalsely : Prop := fnExactLeastPlaneRow.holds Try.pinned (OpenSpec.ofChange fnExactLeastPlaneWrong)

/-- 'laws.FnExactSizeOf': WHATEVER THE INPUT: true; the input reads as it did. -/
def fnExactSizeOfSpec : ChangeSpec := { name := "fnExactSizeOf", fn := fun _ => fun
  | [d1, d2] => { results := [.lit (.bool true)], args := [d1, d2] }
  | _ => none }
def fnExactSizeOfRow : OpenClaim := { program := "ytldimbipjjjghaa", sum := "97e0df26cc369491d3b4d3a79bf12c8e95b8f7b48714c3ef642d735b7805da25", func := "loop.example/g01135/laws.FnExactSizeOf", spec := "fnExactSizeOf", unfollowed := true, recurses := true, plainKeys := false, apart := false }
def FnExactSizeOfSaid : Prop := fnExactSizeOfRow.holds Try.pinned (OpenSpec.ofChange fnExactSizeOfSpec)

/-- ITS FALSE NEIGHBOUR: 'it returns false'. Refute it at one input. -/
def fnExactSizeOfWrong : ChangeSpec := { name := "fnExactSizeOf", fn := fun _ => fun
  | [d1, d2] => { results := [.lit (.bool false)], args := [d1, d2] }
  | _ => none }
def FnExactSizeOfWrongFalsely : Prop := fnExactSizeOfRow.holds Try.pinned (OpenSpec.ofChange fnExactSizeOfWrong)

/-- 'laws.FnExactCountThresholds': WHATEVER THE INPUT: true; the input reads as it did. -/
def fnExactCountThresholdsSpec : ChangeSpec := { name := "fnExactCountThresholds", fn := fun _ => fun
  | [d] => { results := [.lit (.bool true)], args := [d] }
  | _ => none }
def fnExactCountThresholdsRow : OpenClaim := { program := "ytldimbipjjjghaa", sum := "97e0df26cc369491d3b4d3a79bf12c8e95b8f7b48714c3ef642d735b7805da25", func := "loop.example/g01135/laws.FnExactCountThresholds", spec := "fnExactCountThresholds", unfollowed := true, recurses := true, plainKeys := false, apart := false }
def FnExactCountThresholdsSaid : Prop := fnExactCountThresholdsRow.holds Try.pinned (OpenSpec.ofChange fnExactCountThresholdsSpec)

/-- ITS FALSE NEIGHBOUR: 'it returns false'. Refute it at one input. -/
def fnExactCountThresholdsWrong : ChangeSpec := { name := "fnExactCountThresholds", fn := fun _ => fun
  | [d] => { results := [.lit (.bool false)], args := [d] }
  | _ => none }
def FnExactCountThresholdsWrongFalsely : Prop := fnExactCountThresholdsRow.holds Try.pinned (OpenSpec.ofChange fnExactCountThresholdsWrong)

/-- 'laws.FnExactFirstConflict': WHATEVER THE INPUT: true; the input reads as it did. -/
def fnExactFirstConflictSpec : ChangeSpec := { name := "fnExactFirstConflict", fn := fun _ => fun
  | [d] => { results := [.lit (.bool true)], args := [d] }
  | _ => none }
def fnExactFirstConflictRow : OpenClaim := { program := "ytldimbipjjjghaa", sum := "97e0df26cc369491d3b4d3a79bf12c8e95b8f7b48714c3ef642d735b7805da25", func := "loop.example/g01135/laws.FnExactFirstConflict", spec := "fnExactFirstConflict", unfollowed := true, recurses := true, plainKeys := false, apart := false }
def FnExactFirstConflictSaid : Prop := fnExactFirstConflictRow.holds Try.pinned (OpenSpec.ofChange fnExactFirstConflictSpec)

/-- ITS FALSE NEIGHBOUR: 'it returns false'. Refute it at one input. -/
def fnExactFirstConflictWrong : ChangeSpec := { name := "fnExactFirstConflict", fn := fun _ => fun
  | [d] => { results := [.lit (.bool false)], args := [d] }
  | _ => none }
def FnExactFirstConflictWrongFalsely : Prop := fnExactFirstConflictRow.holds Try.pinned (OpenSpec.ofChange fnExactFirstConflictWrong)

/-- 'laws.FnBits': WHATEVER THE INPUT: true; the input reads as it did. -/
def fnBitsSpec : ChangeSpec := { name := "fnBits", fn := fun _ => fun
  | [d] => { results := [.lit (.bool true)], args := [d] }
  | _ => none }
def fnBitsRow : OpenClaim := { program := "ytldimbipjjjghaa", sum := "97e0df26cc369491d3b4d3a79bf12c8e95b8f7b48714c3ef642d735b7805da25", func := "loop.example/g01135/laws.FnBits", spec := "fnBits", unfollowed := true, recurses := true, plainKeys := false, apart := false }
def FnBitsSaid : Prop := fnBitsRow.holds Try.pinned (OpenSpec.ofChange fnBitsSpec)

/-- ITS FALSE NEIGHBOUR: 'it returns false'. Refute it at one input. -/
def fnBitsWrong : ChangeSpec := { name := "fnBits", fn := fun _ => fun
  | [d] => { results := [.lit (.bool false)], args := [d] }
  | _ => none }
def FnBitsWrongFalsely : Prop := fnBitsRow.holds Try.pinned (OpenSpec.ofChange fnBitsWrong)

/- THE SECOND FORM. 'bulk': how many values and letters a reading holds, each counted each time it is reached (what is shared counts as often as it is met; a slice's spare places count too). A statement '..UptoSaid' is the law's where the arguments, and the package variables that the reading takes, are together of bulk at most 1048576: NARROWER than '..Said'. Prove '..Said' where nothing that the law and all that it calls make is longer than what came in: it says more and counts as full. Else prove '..UptoSaid'. A law counts once. -/
mutual
def uptoBulk {H : Type} : DataW H → Nat
  | .lit (.string bytes) => bytes.length + 1
  | .lit _ => 1
  | .nil => 1
  | .ptr d => uptoBulk d + 1
  | .slice elems spare => uptoBulkAll elems + uptoBulkAll spare + 1
  | .agg parts => uptoBulkAll parts + 1
  | .iface _ d => uptoBulk d + 1
  | .map entries => uptoBulkEntries entries + 1
  | .held _ => 1
def uptoBulkAll {H : Type} : List (DataW H) → Nat
  | [] => 0
  | d :: r => uptoBulk d + uptoBulkAll r
def uptoBulkEntries {H : Type} : List (Lit × DataW H) → Nat
  | [] => 0
  | x :: r => uptoBulkEntry x + uptoBulkEntries r
def uptoBulkEntry {H : Type} : Lit × DataW H → Nat
  | (.string bytes, d) => bytes.length + uptoBulk d + 1
  | (_, d) => uptoBulk d + 1
 end
def uptoSmall : (H : Type) → List (DataW H) → Bool := fun _ ds => decide (uptoBulkAll ds ≤ 1048576)
def OpenSpec.upto (s : _root_.Go.ChangeSpec) : _root_.Go.OpenSpec := { _root_.Go.OpenSpec.ofChange s with cond := some uptoSmall }

/-- 'laws.FnExactPocketPlane', WHERE WHAT IT READS IS OF BULK AT MOST 1048576: true; the input reads as it did. -/
def fnExactPocketPlaneUptoRow : OpenClaim := { program := "ytldimbipjjjghaa", sum := "97e0df26cc369491d3b4d3a79bf12c8e95b8f7b48714c3ef642d735b7805da25", func := "loop.example/g01135/laws.FnExactPocketPlane", spec := "fnExactPocketPlane", unfollowed := true, recurses := true, plainKeys := false, apart := false, narrowed := true }
def FnExactPocketPlaneUptoSaid : Prop := fnExactPocketPlaneUptoRow.holds Try.pinned (OpenSpec.upto fnExactPocketPlaneSpec)

/-- 'laws.FnExactJoinSamples', WHERE WHAT IT READS IS OF BULK AT MOST 1048576: true; the input reads as it did. -/
def fnExactJoinSamplesUptoRow : OpenClaim := { program := "ytldimbipjjjghaa", sum := "97e0df26cc369491d3b4d3a79bf12c8e95b8f7b48714c3ef642d735b7805da25", func := "loop.example/g01135/laws.FnExactJoinSamples", spec := "fnExactJoinSamples", unfollowed := true, recurses := true, plainKeys := false, apart := false, narrowed := true }
def FnExactJoinSamplesUptoSaid : Prop := fnExactJoinSamplesUptoRow.holds Try.pinned (OpenSpec.upto fnExactJoinSamplesSpec)

/-- 'laws.FnExactCommonPoint', WHERE WHAT IT READS IS OF BULK AT MOST 1048576: true; the input reads as it did. -/
def fnExactCommonPointUptoRow : OpenClaim := { program := "ytldimbipjjjghaa", sum := "97e0df26cc369491d3b4d3a79bf12c8e95b8f7b48714c3ef642d735b7805da25", func := "loop.example/g01135/laws.FnExactCommonPoint", spec := "fnExactCommonPoint", unfollowed := true, recurses := true, plainKeys := false, apart := false, narrowed := true }
def FnExactCommonPointUptoSaid : Prop := fnExactCommonPointUptoRow.holds Try.pinned (OpenSpec.upto fnExactCommonPointSpec)

/-- 'laws.FnExactWeightsTable', WHERE WHAT IT READS IS OF BULK AT MOST 1048576: true; the input reads as it did. -/
def fnExactWeightsTableUptoRow : OpenClaim := { program := "ytldimbipjjjghaa", sum := "97e0df26cc369491d3b4d3a79bf12c8e95b8f7b48714c3ef642d735b7805da25", func := "loop.example/g01135/laws.FnExactWeightsTable", spec := "fnExactWeightsTable", unfollowed := true, recurses := true, plainKeys := false, apart := false, narrowed := true }
def FnExactWeightsTableUptoSaid : Prop := fnExactWeightsTableUptoRow.holds Try.pinned (OpenSpec.upto fnExactWeightsTableSpec)

/-- 'laws.FnExactSmallPlane', WHERE WHAT IT READS IS OF BULK AT MOST 1048576: true; the input reads as it did. -/
def fnExactSmallPlaneUptoRow : OpenClaim := { program := "ytldimbipjjjghaa", sum := "97e0df26cc369491d3b4d3a79bf12c8e95b8f7b48714c3ef642d735b7805da25", func := "loop.example/g01135/laws.FnExactSmallPlane", spec := "fnExactSmallPlane", unfollowed := true, recurses := true, plainKeys := false, apart := false, narrowed := true }
def FnExactSmallPlaneUptoSaid : Prop := fnExactSmallPlaneUptoRow.holds Try.pinned (OpenSpec.upto fnExactSmallPlaneSpec)

/-- 'laws.FnExactWidestWeights', WHERE WHAT IT READS IS OF BULK AT MOST 1048576: true; the input reads as it did. -/
def fnExactWidestWeightsUptoRow : OpenClaim := { program := "ytldimbipjjjghaa", sum := "97e0df26cc369491d3b4d3a79bf12c8e95b8f7b48714c3ef642d735b7805da25", func := "loop.example/g01135/laws.FnExactWidestWeights", spec := "fnExactWidestWeights", unfollowed := true, recurses := true, plainKeys := false, apart := false, narrowed := true }
def FnExactWidestWeightsUptoSaid : Prop := fnExactWidestWeightsUptoRow.holds Try.pinned (OpenSpec.upto fnExactWidestWeightsSpec)

/-- 'laws.FnExactLeastPlane', WHERE WHAT IT READS IS OF BULK AT MOST 1048576: true; the input reads as it did. -/
def fnExactLeastPlaneUptoRow : OpenClaim := { program := "ytldimbipjjjghaa", sum := "97e0df26cc369491d3b4d3a79bf12c8e95b8f7b48714c3ef642d735b7805da25", func := "loop.example/g01135/laws.FnExactLeastPlane", spec := "fnExactLeastPlane", unfollowed := true, recurses := true, plainKeys := false, apart := false, narrowed := true }
def FnExactLeastPlaneUptoSaid : Prop := fnExactLeastPlaneUptoRow.holds Try.pinned (OpenSpec.upto fnExactLeastPlaneSpec)

/-- 'laws.FnExactSizeOf', WHERE WHAT IT READS IS OF BULK AT MOST 1048576: true; the input reads as it did. -/
def fnExactSizeOfUptoRow : OpenClaim := { program := "ytldimbipjjjghaa", sum := "97e0df26cc369491d3b4d3a79bf12c8e95b8f7b48714c3ef642d735b7805da25", func := "loop.example/g01135/laws.FnExactSizeOf", spec := "fnExactSizeOf", unfollowed := true, recurses := true, plainKeys := false, apart := false, narrowed := true }
def FnExactSizeOfUptoSaid : Prop := fnExactSizeOfUptoRow.holds Try.pinned (OpenSpec.upto fnExactSizeOfSpec)

/-- 'laws.FnExactCountThresholds', WHERE WHAT IT READS IS OF BULK AT MOST 1048576: true; the input reads as it did. -/
def fnExactCountThresholdsUptoRow : OpenClaim := { program := "ytldimbipjjjghaa", sum := "97e0df26cc369491d3b4d3a79bf12c8e95b8f7b48714c3ef642d735b7805da25", func := "loop.example/g01135/laws.FnExactCountThresholds", spec := "fnExactCountThresholds", unfollowed := true, recurses := true, plainKeys := false, apart := false, narrowed := true }
def FnExactCountThresholdsUptoSaid : Prop := fnExactCountThresholdsUptoRow.holds Try.pinned (OpenSpec.upto fnExactCountThresholdsSpec)

/-- 'laws.FnExactFirstConflict', WHERE WHAT IT READS IS OF BULK AT MOST 1048576: true; the input reads as it did. -/
def fnExactFirstConflictUptoRow : OpenClaim := { program := "ytldimbipjjjghaa", sum := "97e0df26cc369491d3b4d3a79bf12c8e95b8f7b48714c3ef642d735b7805da25", func := "loop.example/g01135/laws.FnExactFirstConflict", spec := "fnExactFirstConflict", unfollowed := true, recurses := true, plainKeys := false, apart := false, narrowed := true }
def FnExactFirstConflictUptoSaid : Prop := fnExactFirstConflictUptoRow.holds Try.pinned (OpenSpec.upto fnExactFirstConflictSpec)

/-- 'laws.FnBits', WHERE WHAT IT READS IS OF BULK AT MOST 1048576: true; the input reads as it did. -/
def fnBitsUptoRow : OpenClaim := { program := "ytldimbipjjjghaa", sum := "97e0df26cc369491d3b4d3a79bf12c8e95b8f7b48714c3ef642d735b7805da25", func := "loop.example/g01135/laws.FnBits", spec := "fnBits", unfollowed := true, recurses := true, plainKeys := false, apart := false, narrowed := true }
def FnBitsUptoSaid : Prop := fnBitsUptoRow.holds Try.pinned (OpenSpec.upto fnBitsSpec)

end Rows
end Go.Proofs.Ytldimbipjjjghaa
