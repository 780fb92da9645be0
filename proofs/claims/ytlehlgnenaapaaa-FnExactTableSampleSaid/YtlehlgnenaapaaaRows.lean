/-
  No cell of these rows narrows 'for every input' (looked for: loops, veiled, ifaces, maps, wideKeys, modest, calm, conditions, laid).
  DERIVED. THE GIVEN ROWS OF THIS SEAT. 11 by the template 'for every input the law returns true; each argument reads behind the call as it read before'; 0 by the template 'total and deterministic' (their statements: YtlehlgnenaapaaaTotals.lean).
  GIVEN WITH THE SEED: the statements are not yours to turn. If you find one false, say at which input.
  Laid BY PROGRAM, IN A SANDBOX (cutbox-rows.mjs): the forced cells as the released guide's own fill.sh prints them over the translation 01f81d301e1b109c… (all of the seat's roots in one cut). By AI agents, Wed Nov 11 2026. No macro, syntax, notation, axiom, sorry.
-/
import Derived.Test.YtlehlgnenaapaaaChecked
import GoSem.Claim
import GoSem.ClaimJoined
import GoSem.ClaimMapViews
import Derived.JoinedTies
import Derived.KernelRfl
namespace Go.Proofs.Ytlehlgnenaapaaa
/- THE CELL 'sum', in the pinned program and in every row, IS THE sha256 OF THE DUMP (.gsa) THAT YtlehlgnenaapaaaProg.lean LOADS. Nothing in Lean hashes anything: it is a label: what it is worth is what the hold of that sum in a sandbox is worth. -/
noncomputable def Try.pinned : Pinned := { name := "ytlehlgnenaapaaa", sum := "01f81d301e1b109c8d8a0af0d6c056cdfe2faad2cc6856fe2aa96d27e2376287", checked := Try.checked }
namespace Rows
def none {H : Type} : Left H := { results := [], args := [] }

/-- 'laws.FnBits': WHATEVER THE INPUT: true; the input reads as it did. -/
def fnBitsSpec : ChangeSpec := { name := "fnBits", fn := fun _ => fun
  | [d] => { results := [.lit (.bool true)], args := [d] }
  | _ => none }
def fnBitsRow : OpenClaim := { program := "ytlehlgnenaapaaa", sum := "01f81d301e1b109c8d8a0af0d6c056cdfe2faad2cc6856fe2aa96d27e2376287", func := "loop.example/g01135/laws.FnBits", spec := "fnBits", unfollowed := true, recurses := true, plainKeys := false, apart := false }
def FnBitsSaid : Prop := fnBitsRow.holds Try.pinned (OpenSpec.ofChange fnBitsSpec)

/-- ITS FALSE NEIGHBOUR: 'it returns false'. Refute it at one input. -/
def fnBitsWrong : ChangeSpec := { name := "fnBits", fn := fun _ => fun
  | [d] => { results := [.lit (.bool false)], args := [d] }
  | _ => none }
def FnBitsWrongFalsely : Prop := fnBitsRow.holds Try.pinned (OpenSpec.ofChange fnBitsWrong)

/-- 'laws.FnExactTurnLabels': WHATEVER THE INPUT: true; the input reads as it did. -/
def fnExactTurnLabelsSpec : ChangeSpec := { name := "fnExactTurnLabels", fn := fun _ => fun
  | [d] => { results := [.lit (.bool true)], args := [d] }
  | _ => none }
def fnExactTurnLabelsRow : OpenClaim := { program := "ytlehlgnenaapaaa", sum := "01f81d301e1b109c8d8a0af0d6c056cdfe2faad2cc6856fe2aa96d27e2376287", func := "loop.example/g01135/laws.FnExactTurnLabels", spec := "fnExactTurnLabels", unfollowed := true, recurses := true, plainKeys := false, apart := false }
def FnExactTurnLabelsSaid : Prop := fnExactTurnLabelsRow.holds Try.pinned (OpenSpec.ofChange fnExactTurnLabelsSpec)

/-- ITS FALSE NEIGHBOUR: 'it returns false'. Refute it at one input. -/
def fnExactTurnLabelsWrong : ChangeSpec := { name := "fnExactTurnLabels", fn := fun _ => fun
  | [d] => { results := [.lit (.bool false)], args := [d] }
  | _ => none }
def FnExactTurnLabelsWrongFalsely : Prop := fnExactTurnLabelsRow.holds Try.pinned (OpenSpec.ofChange fnExactTurnLabelsWrong)

/-- 'laws.FnExactMoveSample': WHATEVER THE INPUT: true; the input reads as it did. -/
def fnExactMoveSampleSpec : ChangeSpec := { name := "fnExactMoveSample", fn := fun _ => fun
  | [d1, d2] => { results := [.lit (.bool true)], args := [d1, d2] }
  | _ => none }
def fnExactMoveSampleRow : OpenClaim := { program := "ytlehlgnenaapaaa", sum := "01f81d301e1b109c8d8a0af0d6c056cdfe2faad2cc6856fe2aa96d27e2376287", func := "loop.example/g01135/laws.FnExactMoveSample", spec := "fnExactMoveSample", unfollowed := true, recurses := true, plainKeys := false, apart := false }
def FnExactMoveSampleSaid : Prop := fnExactMoveSampleRow.holds Try.pinned (OpenSpec.ofChange fnExactMoveSampleSpec)

/-- ITS FALSE NEIGHBOUR: 'it returns false'. Refute it at one input. -/
def fnExactMoveSampleWrong : ChangeSpec := { name := "fnExactMoveSample", fn := fun _ => fun
  | [d1, d2] => { results := [.lit (.bool false)], args := [d1, d2] }
  | _ => none }
def FnExactMoveSampleWrongFalsely : Prop := fnExactMoveSampleRow.holds Try.pinned (OpenSpec.ofChange fnExactMoveSampleWrong)

/-- 'laws.FnExactMovePlane': WHATEVER THE INPUT: true; the input reads as it did. -/
def fnExactMovePlaneSpec : ChangeSpec := { name := "fnExactMovePlane", fn := fun _ => fun
  | [d1, d2] => { results := [.lit (.bool true)], args := [d1, d2] }
  | _ => none }
def fnExactMovePlaneRow : OpenClaim := { program := "ytlehlgnenaapaaa", sum := "01f81d301e1b109c8d8a0af0d6c056cdfe2faad2cc6856fe2aa96d27e2376287", func := "loop.example/g01135/laws.FnExactMovePlane", spec := "fnExactMovePlane", plainKeys := false, apart := false }
def FnExactMovePlaneSaid : Prop := fnExactMovePlaneRow.holds Try.pinned (OpenSpec.ofChange fnExactMovePlaneSpec)

/-- ITS FALSE NEIGHBOUR: 'it returns false'. Refute it at one input. -/
def fnExactMovePlaneWrong : ChangeSpec := { name := "fnExactMovePlane", fn := fun _ => fun
  | [d1, d2] => { results := [.lit (.bool false)], args := [d1, d2] }
  | _ => none }
def FnExactMovePlaneWrongFalsely : Prop := fnExactMovePlaneRow.holds Try.pinned (OpenSpec.ofChange fnExactMovePlaneWrong)

/-- 'laws.FnExactLiftSample': WHATEVER THE INPUT: true; the input reads as it did. -/
def fnExactLiftSampleSpec : ChangeSpec := { name := "fnExactLiftSample", fn := fun _ => fun
  | [d] => { results := [.lit (.bool true)], args := [d] }
  | _ => none }
def fnExactLiftSampleRow : OpenClaim := { program := "ytlehlgnenaapaaa", sum := "01f81d301e1b109c8d8a0af0d6c056cdfe2faad2cc6856fe2aa96d27e2376287", func := "loop.example/g01135/laws.FnExactLiftSample", spec := "fnExactLiftSample", unfollowed := true, recurses := true, plainKeys := false, apart := false }
def FnExactLiftSampleSaid : Prop := fnExactLiftSampleRow.holds Try.pinned (OpenSpec.ofChange fnExactLiftSampleSpec)

/-- ITS FALSE NEIGHBOUR: 'it returns false'. Refute it at one input. -/
def fnExactLiftSampleWrong : ChangeSpec := { name := "fnExactLiftSample", fn := fun _ => fun
  | [d] => { results := [.lit (.bool false)], args := [d] }
  | _ => none }
def FnExactLiftSampleWrongFalsely : Prop := fnExactLiftSampleRow.holds Try.pinned (OpenSpec.ofChange fnExactLiftSampleWrong)

/-- 'laws.FnExactLiftPlane': WHATEVER THE INPUT: true; the input reads as it did. -/
def fnExactLiftPlaneSpec : ChangeSpec := { name := "fnExactLiftPlane", fn := fun _ => fun
  | [d] => { results := [.lit (.bool true)], args := [d] }
  | _ => none }
def fnExactLiftPlaneRow : OpenClaim := { program := "ytlehlgnenaapaaa", sum := "01f81d301e1b109c8d8a0af0d6c056cdfe2faad2cc6856fe2aa96d27e2376287", func := "loop.example/g01135/laws.FnExactLiftPlane", spec := "fnExactLiftPlane", plainKeys := false, apart := false }
def FnExactLiftPlaneSaid : Prop := fnExactLiftPlaneRow.holds Try.pinned (OpenSpec.ofChange fnExactLiftPlaneSpec)

/-- ITS FALSE NEIGHBOUR: 'it returns false'. Refute it at one input. -/
def fnExactLiftPlaneWrong : ChangeSpec := { name := "fnExactLiftPlane", fn := fun _ => fun
  | [d] => { results := [.lit (.bool false)], args := [d] }
  | _ => none }
def FnExactLiftPlaneWrongFalsely : Prop := fnExactLiftPlaneRow.holds Try.pinned (OpenSpec.ofChange fnExactLiftPlaneWrong)

/-- 'laws.FnExactJoinSamples': WHATEVER THE INPUT: true; the input reads as it did. -/
def fnExactJoinSamplesSpec : ChangeSpec := { name := "fnExactJoinSamples", fn := fun _ => fun
  | [d1, d2] => { results := [.lit (.bool true)], args := [d1, d2] }
  | _ => none }
def fnExactJoinSamplesRow : OpenClaim := { program := "ytlehlgnenaapaaa", sum := "01f81d301e1b109c8d8a0af0d6c056cdfe2faad2cc6856fe2aa96d27e2376287", func := "loop.example/g01135/laws.FnExactJoinSamples", spec := "fnExactJoinSamples", unfollowed := true, recurses := true, plainKeys := false, apart := false }
def FnExactJoinSamplesSaid : Prop := fnExactJoinSamplesRow.holds Try.pinned (OpenSpec.ofChange fnExactJoinSamplesSpec)

/-- ITS FALSE NEIGHBOUR: 'it returns false'. Refute it at one input. -/
def fnExactJoinSamplesWrong : ChangeSpec := { name := "fnExactJoinSamples", fn := fun _ => fun
  | [d1, d2] => { results := [.lit (.bool false)], args := [d1, d2] }
  | _ => none }
def FnExactJoinSamplesWrongFalsely : Prop := fnExactJoinSamplesRow.holds Try.pinned (OpenSpec.ofChange fnExactJoinSamplesWrong)

/-- 'laws.FnExactPartSample': WHATEVER THE INPUT: true; the input reads as it did. -/
def fnExactPartSampleSpec : ChangeSpec := { name := "fnExactPartSample", fn := fun _ => fun
  | [d1, d2] => { results := [.lit (.bool true)], args := [d1, d2] }
  | _ => none }
def fnExactPartSampleRow : OpenClaim := { program := "ytlehlgnenaapaaa", sum := "01f81d301e1b109c8d8a0af0d6c056cdfe2faad2cc6856fe2aa96d27e2376287", func := "loop.example/g01135/laws.FnExactPartSample", spec := "fnExactPartSample", plainKeys := false, apart := false }
def FnExactPartSampleSaid : Prop := fnExactPartSampleRow.holds Try.pinned (OpenSpec.ofChange fnExactPartSampleSpec)

/-- ITS FALSE NEIGHBOUR: 'it returns false'. Refute it at one input. -/
def fnExactPartSampleWrong : ChangeSpec := { name := "fnExactPartSample", fn := fun _ => fun
  | [d1, d2] => { results := [.lit (.bool false)], args := [d1, d2] }
  | _ => none }
def FnExactPartSampleWrongFalsely : Prop := fnExactPartSampleRow.holds Try.pinned (OpenSpec.ofChange fnExactPartSampleWrong)

/-- 'laws.FnExactFirstConflict': WHATEVER THE INPUT: true; the input reads as it did. -/
def fnExactFirstConflictSpec : ChangeSpec := { name := "fnExactFirstConflict", fn := fun _ => fun
  | [d] => { results := [.lit (.bool true)], args := [d] }
  | _ => none }
def fnExactFirstConflictRow : OpenClaim := { program := "ytlehlgnenaapaaa", sum := "01f81d301e1b109c8d8a0af0d6c056cdfe2faad2cc6856fe2aa96d27e2376287", func := "loop.example/g01135/laws.FnExactFirstConflict", spec := "fnExactFirstConflict", unfollowed := true, recurses := true, plainKeys := false, apart := false }
def FnExactFirstConflictSaid : Prop := fnExactFirstConflictRow.holds Try.pinned (OpenSpec.ofChange fnExactFirstConflictSpec)

/-- ITS FALSE NEIGHBOUR: 'it returns false'. Refute it at one input. -/
def fnExactFirstConflictWrong : ChangeSpec := { name := "fnExactFirstConflict", fn := fun _ => fun
  | [d] => { results := [.lit (.bool false)], args := [d] }
  | _ => none }
def FnExactFirstConflictWrongFalsely : Prop := fnExactFirstConflictRow.holds Try.pinned (OpenSpec.ofChange fnExactFirstConflictWrong)

/-- 'laws.FnExactPlaneTable': WHATEVER THE INPUT: true; the input reads as it did. -/
def fnExactPlaneTableSpec : ChangeSpec := { name := "fnExactPlaneTable", fn := fun _ => fun
  | [d] => { results := [.lit (.bool true)], args := [d] }
  | _ => none }
def fnExactPlaneTableRow : OpenClaim := { program := "ytlehlgnenaapaaa", sum := "01f81d301e1b109c8d8a0af0d6c056cdfe2faad2cc6856fe2aa96d27e2376287", func := "loop.example/g01135/laws.FnExactPlaneTable", spec := "fnExactPlaneTable", plainKeys := false, apart := false }
def FnExactPlaneTableSaid : Prop := fnExactPlaneTableRow.holds Try.pinned (OpenSpec.ofChange fnExactPlaneTableSpec)

/-- ITS FALSE NEIGHBOUR: 'it returns false'. Refute it at one input. -/
def fnExactPlaneTableWrong : ChangeSpec := { name := "fnExactPlaneTable", fn := fun _ => fun
  | [d] => { results := [.lit (.bool false)], args := [d] }
  | _ => none }
def FnExactPlaneTableWrongFalsely : Prop := fnExactPlaneTableRow.holds Try.pinned (OpenSpec.ofChange fnExactPlaneTableWrong)

/-- 'laws.FnExactTableSample': WHATEVER THE INPUT: true; the input reads as it did. -/
def fnExactTableSampleSpec : ChangeSpec := { name := "fnExactTableSample", fn := fun _ => fun
  | [d1, d2] => { results := [.lit (.bool true)], args := [d1, d2] }
  | _ => none }
def fnExactTableSampleRow : OpenClaim := { program := "ytlehlgnenaapaaa", sum := "01f81d301e1b109c8d8a0af0d6c056cdfe2faad2cc6856fe2aa96d27e2376287", func := "loop.example/g01135/laws.FnExactTableSample", spec := "fnExactTableSample", unfollowed := true, recurses := true, plainKeys := false, apart := false }
def FnExactTableSampleSaid : Prop := fnExactTableSampleRow.holds Try.pinned (OpenSpec.ofChange fnExactTableSampleSpec)

/-- ITS FALSE NEIGHBOUR: 'it returns false'. Refute it at one input. -/
def fnExactTableSampleWrong : ChangeSpec := { name := "fnExactTableSample", fn := fun _ => fun
  | [d1, d2] => { results := [.lit (.bool false)], args := [d1, d2] }
  | _ => none }
def FnExactTableSampleWrongFalsely : Prop := fnExactTableSampleRow.holds Try.pinned (OpenSpec.ofChange fnExactTableSampleWrong)

/- THE SECOND FORM. 'bulk': how many values and letters a reading holds, each counted each time it is reached (what is shared counts as often as it is met; a slice's spare places count too). A statement '..UptoSaid' is the law's where the arguments, and the package variables that the reading takes, are together of bulk at most 1048576: NARROWER than '..Said'. Prove '..Said' where nothing that the law and all that it calls make is longer than what came in: it says more and counts as full. Else prove '..UptoSaid'. A law counts once. -/
mutual
def uptoBulk {H : Type} : DataW H → Nat
  | .lit (.string bytes) => bytes.length + 1
  | .lit _ => 1
  | .nil => 1
  | .ptr d => uptoBulk d + 1
  | .slice elems spare => uptoBulkAll elems + uptoBulkAll spare + 1
  | .agg parts => uptoBulkAll parts + 1
  | .iface _ d => uptoBulk d + 1
  | .map entries => uptoBulkEntries entries + 1
  | .held _ => 1
def uptoBulkAll {H : Type} : List (DataW H) → Nat
  | [] => 0
  | d :: r => uptoBulk d + uptoBulkAll r
def uptoBulkEntries {H : Type} : List (Lit × DataW H) → Nat
  | [] => 0
  | x :: r => uptoBulkEntry x + uptoBulkEntries r
def uptoBulkEntry {H : Type} : Lit × DataW H → Nat
  | (.string bytes, d) => bytes.length + uptoBulk d + 1
  | (_, d) => uptoBulk d + 1
 end
def uptoSmall : (H : Type) → List (DataW H) → Bool := fun _ ds => decide (uptoBulkAll ds ≤ 1048576)
def OpenSpec.upto (s : _root_.Go.ChangeSpec) : _root_.Go.OpenSpec := { _root_.Go.OpenSpec.ofChange s with cond := some uptoSmall }

/-- 'laws.FnBits', WHERE WHAT IT READS IS OF BULK AT MOST 1048576: true; the input reads as it did. -/
def fnBitsUptoRow : OpenClaim := { program := "ytlehlgnenaapaaa", sum := "01f81d301e1b109c8d8a0af0d6c056cdfe2faad2cc6856fe2aa96d27e2376287", func := "loop.example/g01135/laws.FnBits", spec := "fnBits", unfollowed := true, recurses := true, plainKeys := false, apart := false, narrowed := true }
def FnBitsUptoSaid : Prop := fnBitsUptoRow.holds Try.pinned (OpenSpec.upto fnBitsSpec)

/-- 'laws.FnExactTurnLabels', WHERE WHAT IT READS IS OF BULK AT MOST 1048576: true; the input reads as it did. -/
def fnExactTurnLabelsUptoRow : OpenClaim := { program := "ytlehlgnenaapaaa", sum := "01f81d301e1b109c8d8a0af0d6c056cdfe2faad2cc6856fe2aa96d27e2376287", func := "loop.example/g01135/laws.FnExactTurnLabels", spec := "fnExactTurnLabels", unfollowed := true, recurses := true, plainKeys := false, apart := false, narrowed := true }
def FnExactTurnLabelsUptoSaid : Prop := fnExactTurnLabelsUptoRow.holds Try.pinned (OpenSpec.upto fnExactTurnLabelsSpec)

/-- 'laws.FnExactMoveSample', WHERE WHAT IT READS IS OF BULK AT MOST 1048576: true; the input reads as it did. -/
def fnExactMoveSampleUptoRow : OpenClaim := { program := "ytlehlgnenaapaaa", sum := "01f81d301e1b109c8d8a0af0d6c056cdfe2faad2cc6856fe2aa96d27e2376287", func := "loop.example/g01135/laws.FnExactMoveSample", spec := "fnExactMoveSample", unfollowed := true, recurses := true, plainKeys := false, apart := false, narrowed := true }
def FnExactMoveSampleUptoSaid : Prop := fnExactMoveSampleUptoRow.holds Try.pinned (OpenSpec.upto fnExactMoveSampleSpec)

/-- 'laws.FnExactMovePlane', WHERE WHAT IT READS IS OF BULK AT MOST 1048576: true; the input reads as it did. -/
def fnExactMovePlaneUptoRow : OpenClaim := { program := "ytlehlgnenaapaaa", sum := "01f81d301e1b109c8d8a0af0d6c056cdfe2faad2cc6856fe2aa96d27e2376287", func := "loop.example/g01135/laws.FnExactMovePlane", spec := "fnExactMovePlane", plainKeys := false, apart := false, narrowed := true }
def FnExactMovePlaneUptoSaid : Prop := fnExactMovePlaneUptoRow.holds Try.pinned (OpenSpec.upto fnExactMovePlaneSpec)

/-- 'laws.FnExactLiftSample', WHERE WHAT IT READS IS OF BULK AT MOST 1048576: true; the input reads as it did. -/
def fnExactLiftSampleUptoRow : OpenClaim := { program := "ytlehlgnenaapaaa", sum := "01f81d301e1b109c8d8a0af0d6c056cdfe2faad2cc6856fe2aa96d27e2376287", func := "loop.example/g01135/laws.FnExactLiftSample", spec := "fnExactLiftSample", unfollowed := true, recurses := true, plainKeys := false, apart := false, narrowed := true }
def FnExactLiftSampleUptoSaid : Prop := fnExactLiftSampleUptoRow.holds Try.pinned (OpenSpec.upto fnExactLiftSampleSpec)

/-- 'laws.FnExactLiftPlane', WHERE WHAT IT READS IS OF BULK AT MOST 1048576: true; the input reads as it did. -/
def fnExactLiftPlaneUptoRow : OpenClaim := { program := "ytlehlgnenaapaaa", sum := "01f81d301e1b109c8d8a0af0d6c056cdfe2faad2cc6856fe2aa96d27e2376287", func := "loop.example/g01135/laws.FnExactLiftPlane", spec := "fnExactLiftPlane", plainKeys := false, apart := false, narrowed := true }
def FnExactLiftPlaneUptoSaid : Prop := fnExactLiftPlaneUptoRow.holds Try.pinned (OpenSpec.upto fnExactLiftPlaneSpec)

/-- 'laws.FnExactJoinSamples', WHERE WHAT IT READS IS OF BULK AT MOST 1048576: true; the input reads as it did. -/
def fnExactJoinSamplesUptoRow : OpenClaim := { program := "ytlehlgnenaapaaa", sum := "01f81d301e1b109c8d8a0af0d6c056cdfe2faad2cc6856fe2aa96d27e2376287", func := "loop.example/g01135/laws.FnExactJoinSamples", spec := "fnExactJoinSamples", unfollowed := true, recurses := true, plainKeys := false, apart := false, narrowed := true }
def FnExactJoinSamplesUptoSaid : Prop := fnExactJoinSamplesUptoRow.holds Try.pinned (OpenSpec.upto fnExactJoinSamplesSpec)

/-- 'laws.FnExactPartSample', WHERE WHAT IT READS IS OF BULK AT MOST 1048576: true; the input reads as it did. -/
def fnExactPartSampleUptoRow : OpenClaim := { program := "ytlehlgnenaapaaa", sum := "01f81d301e1b109c8d8a0af0d6c056cdfe2faad2cc6856fe2aa96d27e2376287", func := "loop.example/g01135/laws.FnExactPartSample", spec := "fnExactPartSample", plainKeys := false, apart := false, narrowed := true }
def FnExactPartSampleUptoSaid : Prop := fnExactPartSampleUptoRow.holds Try.pinned (OpenSpec.upto fnExactPartSampleSpec)

/-- 'laws.FnExactFirstConflict', WHERE WHAT IT READS IS OF BULK AT MOST 1048576: true; the input reads as it did. -/
def fnExactFirstConflictUptoRow : OpenClaim := { program := "ytlehlgnenaapaaa", sum := "01f81d301e1b109c8d8a0af0d6c056cdfe2faad2cc6856fe2aa96d27e2376287", func := "loop.example/g01135/laws.FnExactFirstConflict", spec := "fnExactFirstConflict", unfollowed := true, recurses := true, plainKeys := false, apart := false, narrowed := true }
def FnExactFirstConflictUptoSaid : Prop := fnExactFirstConflictUptoRow.holds Try.pinned (OpenSpec.upto fnExactFirstConflictSpec)

/-- 'laws.FnExactPlaneTable', WHERE WHAT IT READS IS OF BULK AT MOST 1048576: true; the input reads as it did. -/
def fnExactPlaneTableUptoRow : OpenClaim := { program := "ytlehlgnenaapaaa", sum := "01f81d301e1b109c8d8a0af0d6c056cdfe2faad2cc6856fe2aa96d27e2376287", func := "loop.example/g01135/laws.FnExactPlaneTable", spec := "fnExactPlaneTable", plainKeys := false, apart := false, narrowed := true }
def FnExactPlaneTableUptoSaid : Prop := fnExactPlaneTableUptoRow.holds Try.pinned (OpenSpec.upto fnExactPlaneTableSpec)

/-- 'laws.FnExactTableSample', WHERE WHAT IT READS IS OF BULK AT MOST 1048576: true; the input reads as it did. -/
def fnExactTableSampleUptoRow : OpenClaim := { program := "ytlehlgnenaapaaa", sum := "01f81d301e1b109c8d8a0af0d6c056cdfe2faad2cc6856fe2aa96d27e2376287", func := "loop.example/g01135/laws.FnExactTableSample", spec := "fnExactTableSample", unfollowed := true, recurses := true, plainKeys := false, apart := false, narrowed := true }
def FnExactTableSampleUptoSaid : Prop := fnExactTableSampleUptoRow.holds Try.pinned (OpenSpec.upto fnExactTableSampleSpec)

end Rows
end Go.Proofs.Ytlehlgnenaapaaa
