/-
  No cell of these rows narrows 'for every input' (looked for: loops, veiled, ifaces, maps, wideKeys, modest, calm, conditions, laid).
  DERIVED. THE GIVEN ROWS OF THIS SEAT. 11 by the template 'for every input the law returns true; each argument reads behind the call as it read before'; 0 by the template 'total and deterministic' (their statements: YtcdajnllhmadcabTotals.lean).
  GIVEN WITH THE SEED: the statements are not yours to turn. If you find one false, say at which input.
  Laid BY PROGRAM, IN A SANDBOX (cutbox-rows.mjs): the forced cells as the released guide's own fill.sh prints them over the translation c2c1305a48705140… (all of the seat's roots in one cut). By AI agents, Wed Nov 11 2026. No macro, syntax, notation, axiom, sorry.
-/
import Derived.Test.YtcdajnllhmadcabChecked
import GoSem.Claim
import GoSem.ClaimJoined
import GoSem.ClaimMapViews
import Derived.JoinedTies
import Derived.KernelRfl
namespace Go.Proofs.Ytcdajnllhmadcab
/- THE CELL 'sum', in the pinned program and in every row, IS THE sha256 OF THE DUMP (.gsa) THAT YtcdajnllhmadcabProg.lean LOADS. Nothing in Lean hashes anything: it is a label: what it is worth is what the hold of that sum in a sandbox is worth. -/
noncomputable def Try.pinned : Pinned := { name := "ytcdajnllhmadcab", sum := "c2c1305a48705140ce32bbb351be5d2c0ea9d35f770e3c44f9a5c849be770e86", checked := Try.checked }
namespace Rows
def none {H : Type} : Left H := { results := [], args := [] }

/-- 'laws.FnExactMovePlane': WHATEVER THE INPUT: true; the input reads as it did. -/
def fnExactMovePlaneSpec : ChangeSpec := { name := "fnExactMovePlane", fn := fun _ => fun
  | [d1, d2] => { results := [.lit (.bool true)], args := [d1, d2] }
  | _ => none }
def fnExactMovePlaneRow : OpenClaim := { program := "ytcdajnllhmadcab", sum := "c2c1305a48705140ce32bbb351be5d2c0ea9d35f770e3c44f9a5c849be770e86", func := "loop.example/g01135/laws.FnExactMovePlane", spec := "fnExactMovePlane", plainKeys := false, apart := false }
def FnExactMovePlaneSaid : Prop := fnExactMovePlaneRow.holds Try.pinned (OpenSpec.ofChange fnExactMovePlaneSpec)

/-- ITS FALSE NEIGHBOUR: 'it returns false'. Refute it at one input. -/
def fnExactMovePlaneWrong : ChangeSpec := { name := "fnExactMovePlane", fn := fun _ => fun
  | [d1, d2] => { results := [.lit (.bool false)], args := [d1, d2] }
  | _ => none }
def FnExactMovePlaneWrongFalsely : Prop := fnExactMovePlaneRow.holds Try.pinned (OpenSpec.ofChange fnExactMovePlaneWrong)

/-- 'laws.FnExactLiftSample': WHATEVER THE INPUT: true; the input reads as it did. -/
def fnExactLiftSampleSpec : ChangeSpec := { name := "fnExactLiftSample", fn := fun _ => fun
  | [d] => { results := [.lit (.bool true)], args := [d] }
  | _ => none }
def fnExactLiftSampleRow : OpenClaim := { program := "ytcdajnllhmadcab", sum := "c2c1305a48705140ce32bbb351be5d2c0ea9d35f770e3c44f9a5c849be770e86", func := "loop.example/g01135/laws.FnExactLiftSample", spec := "fnExactLiftSample", unfollowed := true, recurses := true, plainKeys := false, apart := false }
def FnExactLiftSampleSaid : Prop := fnExactLiftSampleRow.holds Try.pinned (OpenSpec.ofChange fnExactLiftSampleSpec)

/-- ITS FALSE NEIGHBOUR: 'it returns false'. Refute it at one input. -/
def fnExactLiftSampleWrong : ChangeSpec := { name := "fnExactLiftSample", fn := fun _ => fun
  | [d] => { results := [.lit (.bool false)], args := [d] }
  | _ => none }
def FnExactLiftSampleWrongFalsely : Prop := fnExactLiftSampleRow.holds Try.pinned (OpenSpec.ofChange fnExactLiftSampleWrong)

/-- 'laws.FnExactLiftPlane': WHATEVER THE INPUT: true; the input reads as it did. -/
def fnExactLiftPlaneSpec : ChangeSpec := { name := "fnExactLiftPlane", fn := fun _ => fun
  | [d] => { results := [.lit (.bool true)], args := [d] }
  | _ => none }
def fnExactLiftPlaneRow : OpenClaim := { program := "ytcdajnllhmadcab", sum := "c2c1305a48705140ce32bbb351be5d2c0ea9d35f770e3c44f9a5c849be770e86", func := "loop.example/g01135/laws.FnExactLiftPlane", spec := "fnExactLiftPlane", plainKeys := false, apart := false }
def FnExactLiftPlaneSaid : Prop := fnExactLiftPlaneRow.holds Try.pinned (OpenSpec.ofChange fnExactLiftPlaneSpec)

/-- ITS FALSE NEIGHBOUR: 'it returns false'. Refute it at one input. -/
def fnExactLiftPlaneWrong : ChangeSpec := { name := "fnExactLiftPlane", fn := fun _ => fun
  | [d] => { results := [.lit (.bool false)], args := [d] }
  | _ => none }
def FnExactLiftPlaneWrongFalsely : Prop := fnExactLiftPlaneRow.holds Try.pinned (OpenSpec.ofChange fnExactLiftPlaneWrong)

/-- 'laws.FnExactJoinSamples': WHATEVER THE INPUT: true; the input reads as it did. -/
def fnExactJoinSamplesSpec : ChangeSpec := { name := "fnExactJoinSamples", fn := fun _ => fun
  | [d1, d2] => { results := [.lit (.bool true)], args := [d1, d2] }
  | _ => none }
def fnExactJoinSamplesRow : OpenClaim := { program := "ytcdajnllhmadcab", sum := "c2c1305a48705140ce32bbb351be5d2c0ea9d35f770e3c44f9a5c849be770e86", func := "loop.example/g01135/laws.FnExactJoinSamples", spec := "fnExactJoinSamples", unfollowed := true, recurses := true, plainKeys := false, apart := false }
def FnExactJoinSamplesSaid : Prop := fnExactJoinSamplesRow.holds Try.pinned (OpenSpec.ofChange fnExactJoinSamplesSpec)

/-- ITS FALSE NEIGHBOUR: 'it returns false'. Refute it at one input. -/
def fnExactJoinSamplesWrong : ChangeSpec := { name := "fnExactJoinSamples", fn := fun _ => fun
  | [d1, d2] => { results := [.lit (.bool false)], args := [d1, d2] }
  | _ => none }
def FnExactJoinSamplesWrongFalsely : Prop := fnExactJoinSamplesRow.holds Try.pinned (OpenSpec.ofChange fnExactJoinSamplesWrong)

/-- 'laws.FnExactPartSample': WHATEVER THE INPUT: true; the input reads as it did. -/
def fnExactPartSampleSpec : ChangeSpec := { name := "fnExactPartSample", fn := fun _ => fun
  | [d1, d2] => { results := [.lit (.bool true)], args := [d1, d2] }
  | _ => none }
def fnExactPartSampleRow : OpenClaim := { program := "ytcdajnllhmadcab", sum := "c2c1305a48705140ce32bbb351be5d2c0ea9d35f770e3c44f9a5c849be770e86", func := "loop.example/g01135/laws.FnExactPartSample", spec := "fnExactPartSample", plainKeys := false, apart := false }
def FnExactPartSampleSaid : Prop := fnExactPartSampleRow.holds Try.pinned (OpenSpec.ofChange fnExactPartSampleSpec)

/-- ITS FALSE NEIGHBOUR: 'it returns false'. Refute it at one input. -/
def fnExactPartSampleWrong : ChangeSpec := { name := "fnExactPartSample", fn := fun _ => fun
  | [d1, d2] => { results := [.lit (.bool false)], args := [d1, d2] }
  | _ => none }
def FnExactPartSampleWrongFalsely : Prop := fnExactPartSampleRow.holds Try.pinned (OpenSpec.ofChange fnExactPartSampleWrong)

/-- 'laws.FnExactPointsWith': WHATEVER THE INPUT: true; the input reads as it did. -/
def fnExactPointsWithSpec : ChangeSpec := { name := "fnExactPointsWith", fn := fun _ => fun
  | [d1, d2] => { results := [.lit (.bool true)], args := [d1, d2] }
  | _ => none }
def fnExactPointsWithRow : OpenClaim := { program := "ytcdajnllhmadcab", sum := "c2c1305a48705140ce32bbb351be5d2c0ea9d35f770e3c44f9a5c849be770e86", func := "loop.example/g01135/laws.FnExactPointsWith", spec := "fnExactPointsWith", unfollowed := true, recurses := true, plainKeys := false, apart := false }
def FnExactPointsWithSaid : Prop := fnExactPointsWithRow.holds Try.pinned (OpenSpec.ofChange fnExactPointsWithSpec)

/-- ITS FALSE NEIGHBOUR: 'it returns false'. Refute it at one input. -/
def fnExactPointsWithWrong : ChangeSpec := { name := "fnExactPointsWith", fn := fun _ => fun
  | [d1, d2] => { results := [.lit (.bool false)], args := [d1, d2] }
  | _ => none }
def FnExactPointsWithWrongFalsely : Prop := fnExactPointsWithRow.holds Try.pinned (OpenSpec.ofChange fnExactPointsWithWrong)

/-- 'laws.FnExactFirstConflict': WHATEVER THE INPUT: true; the input reads as it did. -/
def fnExactFirstConflictSpec : ChangeSpec := { name := "fnExactFirstConflict", fn := fun _ => fun
  | [d] => { results := [.lit (.bool true)], args := [d] }
  | _ => none }
def fnExactFirstConflictRow : OpenClaim := { program := "ytcdajnllhmadcab", sum := "c2c1305a48705140ce32bbb351be5d2c0ea9d35f770e3c44f9a5c849be770e86", func := "loop.example/g01135/laws.FnExactFirstConflict", spec := "fnExactFirstConflict", unfollowed := true, recurses := true, plainKeys := false, apart := false }
def FnExactFirstConflictSaid : Prop := fnExactFirstConflictRow.holds Try.pinned (OpenSpec.ofChange fnExactFirstConflictSpec)

/-- ITS FALSE NEIGHBOUR: 'it returns false'. Refute it at one input. -/
def fnExactFirstConflictWrong : ChangeSpec := { name := "fnExactFirstConflict", fn := fun _ => fun
  | [d] => { results := [.lit (.bool false)], args := [d] }
  | _ => none }
def FnExactFirstConflictWrongFalsely : Prop := fnExactFirstConflictRow.holds Try.pinned (OpenSpec.ofChange fnExactFirstConflictWrong)

/-- 'laws.FnExactSquareDistance': WHATEVER THE INPUT: true; the input reads as it did. -/
def fnExactSquareDistanceSpec : ChangeSpec := { name := "fnExactSquareDistance", fn := fun _ => fun
  | [d1, d2] => { results := [.lit (.bool true)], args := [d1, d2] }
  | _ => none }
def fnExactSquareDistanceRow : OpenClaim := { program := "ytcdajnllhmadcab", sum := "c2c1305a48705140ce32bbb351be5d2c0ea9d35f770e3c44f9a5c849be770e86", func := "loop.example/g01135/laws.FnExactSquareDistance", spec := "fnExactSquareDistance", plainKeys := false, apart := false }
def FnExactSquareDistanceSaid : Prop := fnExactSquareDistanceRow.holds Try.pinned (OpenSpec.ofChange fnExactSquareDistanceSpec)

/-- ITS FALSE NEIGHBOUR: 'it returns false'. Refute it at one input. -/
def fnExactSquareDistanceWrong : ChangeSpec := { name := "fnExactSquareDistance", fn := fun _ => fun
  | [d1, d2] => { results := [.lit (.bool false)], args := [d1, d2] }
  | _ => none }
def FnExactSquareDistanceWrongFalsely : Prop := fnExactSquareDistanceRow.holds Try.pinned (OpenSpec.ofChange fnExactSquareDistanceWrong)

/-- 'laws.FnExactBitPoint': WHATEVER THE INPUT: true; the input reads as it did. -/
def fnExactBitPointSpec : ChangeSpec := { name := "fnExactBitPoint", fn := fun _ => fun
  | [d1, d2] => { results := [.lit (.bool true)], args := [d1, d2] }
  | _ => none }
def fnExactBitPointRow : OpenClaim := { program := "ytcdajnllhmadcab", sum := "c2c1305a48705140ce32bbb351be5d2c0ea9d35f770e3c44f9a5c849be770e86", func := "loop.example/g01135/laws.FnExactBitPoint", spec := "fnExactBitPoint", plainKeys := false, apart := false }
def FnExactBitPointSaid : Prop := fnExactBitPointRow.holds Try.pinned (OpenSpec.ofChange fnExactBitPointSpec)

/-- ITS FALSE NEIGHBOUR: 'it returns false'. Refute it at one input. -/
def fnExactBitPointWrong : ChangeSpec := { name := "fnExactBitPoint", fn := fun _ => fun
  | [d1, d2] => { results := [.lit (.bool false)], args := [d1, d2] }
  | _ => none }
def FnExactBitPointWrongFalsely : Prop := fnExactBitPointRow.holds Try.pinned (OpenSpec.ofChange fnExactBitPointWrong)

/-- 'laws.FnExactPlaneTable': WHATEVER THE INPUT: true; the input reads as it did. -/
def fnExactPlaneTableSpec : ChangeSpec := { name := "fnExactPlaneTable", fn := fun _ => fun
  | [d] => { results := [.lit (.bool true)], args := [d] }
  | _ => none }
def fnExactPlaneTableRow : OpenClaim := { program := "ytcdajnllhmadcab", sum := "c2c1305a48705140ce32bbb351be5d2c0ea9d35f770e3c44f9a5c849be770e86", func := "loop.example/g01135/laws.FnExactPlaneTable", spec := "fnExactPlaneTable", plainKeys := false, apart := false }
def FnExactPlaneTableSaid : Prop := fnExactPlaneTableRow.holds Try.pinned (OpenSpec.ofChange fnExactPlaneTableSpec)

/-- ITS FALSE NEIGHBOUR: 'it returns false'. Refute it at one input. -/
def fnExactPlaneTableWrong : ChangeSpec := { name := "fnExactPlaneTable", fn := fun _ => fun
  | [d] => { results := [.lit (.bool false)], args := [d] }
  | _ => none }
def FnExactPlaneTableWrongFalsely : Prop := fnExactPlaneTableRow.holds Try.pinned (OpenSpec.ofChange fnExactPlaneTableWrong)

/-- 'laws.FnExactTableSample': WHATEVER THE INPUT: true; the input reads as it did. -/
def fnExactTableSampleSpec : ChangeSpec := { name := "fnExactTableSample", fn := fun _ => fun
  | [d1, d2] => { results := [.lit (.bool true)], args := [d1, d2] }
  | _ => none }
def fnExactTableSampleRow : OpenClaim := { program := "ytcdajnllhmadcab", sum := "c2c1305a48705140ce32bbb351be5d2c0ea9d35f770e3c44f9a5c849be770e86", func := "loop.example/g01135/laws.FnExactTableSample", spec := "fnExactTableSample", unfollowed := true, recurses := true, plainKeys := false, apart := false }
def FnExactTableSampleSaid : Prop := fnExactTableSampleRow.holds Try.pinned (OpenSpec.ofChange fnExactTableSampleSpec)

/-- ITS FALSE NEIGHBOUR: 'it returns false'. Refute it at one input. -/
def fnExactTableSampleWrong : ChangeSpec := { name := "fnExactTableSample", fn := fun _ => fun
  | [d1, d2] => { results := [.lit (.bool false)], args := [d1, d2] }
  | _ => none }
def FnExactTableSampleWrongFalsely : Prop := fnExactTableSampleRow.holds Try.pinned (OpenSpec.ofChange fnExactTableSampleWrong)

/- THE SECOND FORM. 'bulk': how many values and letters a reading holds, each counted each time it is reached (what is shared counts as often as it is met; a slice's spare places count too). A statement '..UptoSaid' is the law's where the arguments, and the package variables that the reading takes, are together of bulk at most 1048576: NARROWER than '..Said'. Prove '..Said' where nothing that the law and all that it calls make is longer than what came in: it says more and counts as full. Else prove '..UptoSaid'. A law counts once. -/
mutual
def uptoBulk {H : Type} : DataW H → Nat
  | .lit (.string bytes) => bytes.length + 1
  | .lit _ => 1
  | .nil => 1
  | .ptr d => uptoBulk d + 1
  | .slice elems spare => uptoBulkAll elems + uptoBulkAll spare + 1
  | .agg parts => uptoBulkAll parts + 1
  | .iface _ d => uptoBulk d + 1
  | .map entries => uptoBulkEntries entries + 1
  | .held _ => 1
def uptoBulkAll {H : Type} : List (DataW H) → Nat
  | [] => 0
  | d :: r => uptoBulk d + uptoBulkAll r
def uptoBulkEntries {H : Type} : List (Lit × DataW H) → Nat
  | [] => 0
  | x :: r => uptoBulkEntry x + uptoBulkEntries r
def uptoBulkEntry {H : Type} : Lit × DataW H → Nat
  | (.string bytes, d) => bytes.length + uptoBulk d + 1
  | (_, d) => uptoBulk d + 1
 end
def uptoSmall : (H : Type) → List (DataW H) → Bool := fun _ ds => decide (uptoBulkAll ds ≤ 1048576)
def OpenSpec.upto (s : _root_.Go.ChangeSpec) : _root_.Go.OpenSpec := { _root_.Go.OpenSpec.ofChange s with cond := some uptoSmall }

/-- 'laws.FnExactMovePlane', WHERE WHAT IT READS IS OF BULK AT MOST 1048576: true; the input reads as it did. -/
def fnExactMovePlaneUptoRow : OpenClaim := { program := "ytcdajnllhmadcab", sum := "c2c1305a48705140ce32bbb351be5d2c0ea9d35f770e3c44f9a5c849be770e86", func := "loop.example/g01135/laws.FnExactMovePlane", spec := "fnExactMovePlane", plainKeys := false, apart := false, narrowed := true }
def FnExactMovePlaneUptoSaid : Prop := fnExactMovePlaneUptoRow.holds Try.pinned (OpenSpec.upto fnExactMovePlaneSpec)

/-- 'laws.FnExactLiftSample', WHERE WHAT IT READS IS OF BULK AT MOST 1048576: true; the input reads as it did. -/
def fnExactLiftSampleUptoRow : OpenClaim := { program := "ytcdajnllhmadcab", sum := "c2c1305a48705140ce32bbb351be5d2c0ea9d35f770e3c44f9a5c849be770e86", func := "loop.example/g01135/laws.FnExactLiftSample", spec := "fnExactLiftSample", unfollowed := true, recurses := true, plainKeys := false, apart := false, narrowed := true }
def FnExactLiftSampleUptoSaid : Prop := fnExactLiftSampleUptoRow.holds Try.pinned (OpenSpec.upto fnExactLiftSampleSpec)

/-- 'laws.FnExactLiftPlane', WHERE WHAT IT READS IS OF BULK AT MOST 1048576: true; the input reads as it did. -/
def fnExactLiftPlaneUptoRow : OpenClaim := { program := "ytcdajnllhmadcab", sum := "c2c1305a48705140ce32bbb351be5d2c0ea9d35f770e3c44f9a5c849be770e86", func := "loop.example/g01135/laws.FnExactLiftPlane", spec := "fnExactLiftPlane", plainKeys := false, apart := false, narrowed := true }
def FnExactLiftPlaneUptoSaid : Prop := fnExactLiftPlaneUptoRow.holds Try.pinned (OpenSpec.upto fnExactLiftPlaneSpec)

/-- 'laws.FnExactJoinSamples', WHERE WHAT IT READS IS OF BULK AT MOST 1048576: true; the input reads as it did. -/
def fnExactJoinSamplesUptoRow : OpenClaim := { program := "ytcdajnllhmadcab", sum := "c2c1305a48705140ce32bbb351be5d2c0ea9d35f770e3c44f9a5c849be770e86", func := "loop.example/g01135/laws.FnExactJoinSamples", spec := "fnExactJoinSamples", unfollowed := true, recurses := true, plainKeys := false, apart := false, narrowed := true }
def FnExactJoinSamplesUptoSaid : Prop := fnExactJoinSamplesUptoRow.holds Try.pinned (OpenSpec.upto fnExactJoinSamplesSpec)

/-- 'laws.FnExactPartSample', WHERE WHAT IT READS IS OF BULK AT MOST 1048576: true; the input reads as it did. -/
def fnExactPartSampleUptoRow : OpenClaim := { program := "ytcdajnllhmadcab", sum := "c2c1305a48705140ce32bbb351be5d2c0ea9d35f770e3c44f9a5c849be770e86", func := "loop.example/g01135/laws.FnExactPartSample", spec := "fnExactPartSample", plainKeys := false, apart := false, narrowed := true }
def FnExactPartSampleUptoSaid : Prop := fnExactPartSampleUptoRow.holds Try.pinned (OpenSpec.upto fnExactPartSampleSpec)

/-- 'laws.FnExactPointsWith', WHERE WHAT IT READS IS OF BULK AT MOST 1048576: true; the input reads as it did. -/
def fnExactPointsWithUptoRow : OpenClaim := { program := "ytcdajnllhmadcab", sum := "c2c1305a48705140ce32bbb351be5d2c0ea9d35f770e3c44f9a5c849be770e86", func := "loop.example/g01135/laws.FnExactPointsWith", spec := "fnExactPointsWith", unfollowed := true, recurses := true, plainKeys := false, apart := false, narrowed := true }
def FnExactPointsWithUptoSaid : Prop := fnExactPointsWithUptoRow.holds Try.pinned (OpenSpec.upto fnExactPointsWithSpec)

/-- 'laws.FnExactFirstConflict', WHERE WHAT IT READS IS OF BULK AT MOST 1048576: true; the input reads as it did. -/
def fnExactFirstConflictUptoRow : OpenClaim := { program := "ytcdajnllhmadcab", sum := "c2c1305a48705140ce32bbb351be5d2c0ea9d35f770e3c44f9a5c849be770e86", func := "loop.example/g01135/laws.FnExactFirstConflict", spec := "fnExactFirstConflict", unfollowed := true, recurses := true, plainKeys := false, apart := false, narrowed := true }
def FnExactFirstConflictUptoSaid : Prop := fnExactFirstConflictUptoRow.holds Try.pinned (OpenSpec.upto fnExactFirstConflictSpec)

/-- 'laws.FnExactSquareDistance', WHERE WHAT IT READS IS OF BULK AT MOST 1048576: true; the input reads as it did. -/
def fnExactSquareDistanceUptoRow : OpenClaim := { program := "ytcdajnllhmadcab", sum := "c2c1305a48705140ce32bbb351be5d2c0ea9d35f770e3c44f9a5c849be770e86", func := "loop.example/g01135/laws.FnExactSquareDistance", spec := "fnExactSquareDistance", plainKeys := false, apart := false, narrowed := true }
def FnExactSquareDistanceUptoSaid : Prop := fnExactSquareDistanceUptoRow.holds Try.pinned (OpenSpec.upto fnExactSquareDistanceSpec)

/-- 'laws.FnExactBitPoint', WHERE WHAT IT READS IS OF BULK AT MOST 1048576: true; the input reads as it did. -/
def fnExactBitPointUptoRow : OpenClaim := { program := "ytcdajnllhmadcab", sum := "c2c1305a48705140ce32bbb351be5d2c0ea9d35f770e3c44f9a5c849be770e86", func := "loop.example/g01135/laws.FnExactBitPoint", spec := "fnExactBitPoint", plainKeys := false, apart := false, narrowed := true }
def FnExactBitPointUptoSaid : Prop := fnExactBitPointUptoRow.holds Try.pinned (OpenSpec.upto fnExactBitPointSpec)

/-- 'laws.FnExactPlaneTable', WHERE WHAT IT READS IS OF BULK AT MOST 1048576: true; the input reads as it did. -/
def fnExactPlaneTableUptoRow : OpenClaim := { program := "ytcdajnllhmadcab", sum := "c2c1305a48705140ce32bbb351be5d2c0ea9d35f770e3c44f9a5c849be770e86", func := "loop.example/g01135/laws.FnExactPlaneTable", spec := "fnExactPlaneTable", plainKeys := false, apart := false, narrowed := true }
def FnExactPlaneTableUptoSaid : Prop := fnExactPlaneTableUptoRow.holds Try.pinned (OpenSpec.upto fnExactPlaneTableSpec)

/-- 'laws.FnExactTableSample', WHERE WHAT IT READS IS OF BULK AT MOST 1048576: true; the input reads as it did. -/
def fnExactTableSampleUptoRow : OpenClaim := { program := "ytcdajnllhmadcab", sum := "c2c1305a48705140ce32bbb351be5d2c0ea9d35f770e3c44f9a5c849be770e86", func := "loop.example/g01135/laws.FnExactTableSample", spec := "fnExactTableSample", unfollowed := true, recurses := true, plainKeys := false, apart := false, narrowed := true }
def FnExactTableSampleUptoSaid : Prop := fnExactTableSampleUptoRow.holds Try.pinned (OpenSpec.upto fnExactTableSampleSpec)

end Rows
end Go.Proofs.Ytcdajnllhmadcab
