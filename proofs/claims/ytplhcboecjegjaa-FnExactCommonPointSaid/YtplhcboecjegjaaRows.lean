/-
  No cell of these rows narrows 'for every input' (looked for: loops, veiled, ifaces, maps, wideKeys, modest, calm, conditions, laid).
  DERIVED. THE GIVEN ROWS OF THIS SEAT. 12 by the template 'for every input the law returns true; each argument reads behind the call as it read before'; 0 by the template 'total and deterministic' (their statements: YtplhcboecjegjaaTotals.lean).
  GIVEN WITH THE SEED: the statements are not yours to turn. If you find one false, say at which input.
  Laid BY PROGRAM, IN A SANDBOX (cutbox-rows.mjs): the forced cells as the released guide's own fill.sh prints them over the translation 63ee3345fb02c161… (all of the seat's roots in one cut). By AI agents, Wed Nov 11 2026. No macro, syntax, notation, axiom, sorry.
-/
import Derived.Test.YtplhcboecjegjaaChecked
import GoSem.Claim
import GoSem.ClaimJoined
import GoSem.ClaimMapViews
import Derived.JoinedTies
import Derived.KernelRfl
namespace Go.Proofs.Ytplhcboecjegjaa
/- THE CELL 'sum', in the pinned program and in every row, IS THE sha256 OF THE DUMP (.gsa) THAT YtplhcboecjegjaaProg.lean LOADS. Nothing in Lean hashes anything: it is a label: what it is worth is what the hold of that sum in a sandbox is worth. -/
noncomputable def Try.pinned : Pinned := { name := "ytplhcboecjegjaa", sum := "63ee3345fb02c1616a5a2a8cada7a538769157ff5bf5bc2d3c48f7aa46e075e1", checked := Try.checked }
namespace Rows
def none {H : Type} : Left H := { results := [], args := [] }

/-- 'laws.FnExactLeastWins': WHATEVER THE INPUT: true; the input reads as it did. -/
def fnExactLeastWinsSpec : ChangeSpec := { name := "fnExactLeastWins", fn := fun _ => fun
  | [d] => { results := [.lit (.bool true)], args := [d] }
  | _ => none }
def fnExactLeastWinsRow : OpenClaim := { program := "ytplhcboecjegjaa", sum := "63ee3345fb02c1616a5a2a8cada7a538769157ff5bf5bc2d3c48f7aa46e075e1", func := "loop.example/g01135/laws.FnExactLeastWins", spec := "fnExactLeastWins", unfollowed := true, recurses := true, plainKeys := false, apart := false }
def FnExactLeastWinsSaid : Prop := fnExactLeastWinsRow.holds Try.pinned (OpenSpec.ofChange fnExactLeastWinsSpec)

/-- ITS FALSE NEIGHBOUR: 'it returns false'. Refute it at one input. -/
def fnExactLeastWinsWrong : ChangeSpec := { name := "fnExactLeastWins", fn := fun _ => fun
  | [d] => { results := [.lit (.bool false)], args := [d] }
  | _ => none }
def FnExactLeastWinsWrongFalsely : Prop := fnExactLeastWinsRow.holds Try.pinned (OpenSpec.ofChange fnExactLeastWinsWrong)

/-- 'laws.FnExactGreatestLosses': WHATEVER THE INPUT: true; the input reads as it did. -/
def fnExactGreatestLossesSpec : ChangeSpec := { name := "fnExactGreatestLosses", fn := fun _ => fun
  | [d] => { results := [.lit (.bool true)], args := [d] }
  | _ => none }
def fnExactGreatestLossesRow : OpenClaim := { program := "ytplhcboecjegjaa", sum := "63ee3345fb02c1616a5a2a8cada7a538769157ff5bf5bc2d3c48f7aa46e075e1", func := "loop.example/g01135/laws.FnExactGreatestLosses", spec := "fnExactGreatestLosses", unfollowed := true, recurses := true, plainKeys := false, apart := false }
def FnExactGreatestLossesSaid : Prop := fnExactGreatestLossesRow.holds Try.pinned (OpenSpec.ofChange fnExactGreatestLossesSpec)

/-- ITS FALSE NEIGHBOUR: 'it returns false'. Refute it at one input. -/
def fnExactGreatestLossesWrong : ChangeSpec := { name := "fnExactGreatestLosses", fn := fun _ => fun
  | [d] => { results := [.lit (.bool false)], args := [d] }
  | _ => none }
def FnExactGreatestLossesWrongFalsely : Prop := fnExactGreatestLossesRow.holds Try.pinned (OpenSpec.ofChange fnExactGreatestLossesWrong)

/-- 'laws.FnExactSameWins': WHATEVER THE INPUT: true; the input reads as it did. -/
def fnExactSameWinsSpec : ChangeSpec := { name := "fnExactSameWins", fn := fun _ => fun
  | [d1, d2] => { results := [.lit (.bool true)], args := [d1, d2] }
  | _ => none }
def fnExactSameWinsRow : OpenClaim := { program := "ytplhcboecjegjaa", sum := "63ee3345fb02c1616a5a2a8cada7a538769157ff5bf5bc2d3c48f7aa46e075e1", func := "loop.example/g01135/laws.FnExactSameWins", spec := "fnExactSameWins", unfollowed := true, recurses := true, plainKeys := false, apart := false }
def FnExactSameWinsSaid : Prop := fnExactSameWinsRow.holds Try.pinned (OpenSpec.ofChange fnExactSameWinsSpec)

/-- ITS FALSE NEIGHBOUR: 'it returns false'. Refute it at one input. -/
def fnExactSameWinsWrong : ChangeSpec := { name := "fnExactSameWins", fn := fun _ => fun
  | [d1, d2] => { results := [.lit (.bool false)], args := [d1, d2] }
  | _ => none }
def FnExactSameWinsWrongFalsely : Prop := fnExactSameWinsRow.holds Try.pinned (OpenSpec.ofChange fnExactSameWinsWrong)

/-- 'laws.FnExactQuotaSwings': WHATEVER THE INPUT: true; the input reads as it did. -/
def fnExactQuotaSwingsSpec : ChangeSpec := { name := "fnExactQuotaSwings", fn := fun _ => fun
  | [d1, d2] => { results := [.lit (.bool true)], args := [d1, d2] }
  | _ => none }
def fnExactQuotaSwingsRow : OpenClaim := { program := "ytplhcboecjegjaa", sum := "63ee3345fb02c1616a5a2a8cada7a538769157ff5bf5bc2d3c48f7aa46e075e1", func := "loop.example/g01135/laws.FnExactQuotaSwings", spec := "fnExactQuotaSwings", unfollowed := true, recurses := true, plainKeys := false, apart := false }
def FnExactQuotaSwingsSaid : Prop := fnExactQuotaSwingsRow.holds Try.pinned (OpenSpec.ofChange fnExactQuotaSwingsSpec)

/-- ITS FALSE NEIGHBOUR: 'it returns false'. Refute it at one input. -/
def fnExactQuotaSwingsWrong : ChangeSpec := { name := "fnExactQuotaSwings", fn := fun _ => fun
  | [d1, d2] => { results := [.lit (.bool false)], args := [d1, d2] }
  | _ => none }
def FnExactQuotaSwingsWrongFalsely : Prop := fnExactQuotaSwingsRow.holds Try.pinned (OpenSpec.ofChange fnExactQuotaSwingsWrong)

/-- 'laws.FnExactBothTable': WHATEVER THE INPUT: true; the input reads as it did. -/
def fnExactBothTableSpec : ChangeSpec := { name := "fnExactBothTable", fn := fun _ => fun
  | [d1, d2] => { results := [.lit (.bool true)], args := [d1, d2] }
  | _ => none }
def fnExactBothTableRow : OpenClaim := { program := "ytplhcboecjegjaa", sum := "63ee3345fb02c1616a5a2a8cada7a538769157ff5bf5bc2d3c48f7aa46e075e1", func := "loop.example/g01135/laws.FnExactBothTable", spec := "fnExactBothTable", unfollowed := true, recurses := true, plainKeys := false, apart := false }
def FnExactBothTableSaid : Prop := fnExactBothTableRow.holds Try.pinned (OpenSpec.ofChange fnExactBothTableSpec)

/-- ITS FALSE NEIGHBOUR: 'it returns false'. Refute it at one input. -/
def fnExactBothTableWrong : ChangeSpec := { name := "fnExactBothTable", fn := fun _ => fun
  | [d1, d2] => { results := [.lit (.bool false)], args := [d1, d2] }
  | _ => none }
def FnExactBothTableWrongFalsely : Prop := fnExactBothTableRow.holds Try.pinned (OpenSpec.ofChange fnExactBothTableWrong)

/-- 'laws.FnExactVoteOf': WHATEVER THE INPUT: true; the input reads as it did. -/
def fnExactVoteOfSpec : ChangeSpec := { name := "fnExactVoteOf", fn := fun _ => fun
  | [d1, d2] => { results := [.lit (.bool true)], args := [d1, d2] }
  | _ => none }
def fnExactVoteOfRow : OpenClaim := { program := "ytplhcboecjegjaa", sum := "63ee3345fb02c1616a5a2a8cada7a538769157ff5bf5bc2d3c48f7aa46e075e1", func := "loop.example/g01135/laws.FnExactVoteOf", spec := "fnExactVoteOf", unfollowed := true, recurses := true, plainKeys := false, apart := false }
def FnExactVoteOfSaid : Prop := fnExactVoteOfRow.holds Try.pinned (OpenSpec.ofChange fnExactVoteOfSpec)

/-- ITS FALSE NEIGHBOUR: 'it returns false'. Refute it at one input. -/
def fnExactVoteOfWrong : ChangeSpec := { name := "fnExactVoteOf", fn := fun _ => fun
  | [d1, d2] => { results := [.lit (.bool false)], args := [d1, d2] }
  | _ => none }
def FnExactVoteOfWrongFalsely : Prop := fnExactVoteOfRow.holds Try.pinned (OpenSpec.ofChange fnExactVoteOfWrong)

/-- 'laws.FnExactCountThresholds': WHATEVER THE INPUT: true; the input reads as it did. -/
def fnExactCountThresholdsSpec : ChangeSpec := { name := "fnExactCountThresholds", fn := fun _ => fun
  | [d] => { results := [.lit (.bool true)], args := [d] }
  | _ => none }
def fnExactCountThresholdsRow : OpenClaim := { program := "ytplhcboecjegjaa", sum := "63ee3345fb02c1616a5a2a8cada7a538769157ff5bf5bc2d3c48f7aa46e075e1", func := "loop.example/g01135/laws.FnExactCountThresholds", spec := "fnExactCountThresholds", unfollowed := true, recurses := true, plainKeys := false, apart := false }
def FnExactCountThresholdsSaid : Prop := fnExactCountThresholdsRow.holds Try.pinned (OpenSpec.ofChange fnExactCountThresholdsSpec)

/-- ITS FALSE NEIGHBOUR: 'it returns false'. Refute it at one input. -/
def fnExactCountThresholdsWrong : ChangeSpec := { name := "fnExactCountThresholds", fn := fun _ => fun
  | [d] => { results := [.lit (.bool false)], args := [d] }
  | _ => none }
def FnExactCountThresholdsWrongFalsely : Prop := fnExactCountThresholdsRow.holds Try.pinned (OpenSpec.ofChange fnExactCountThresholdsWrong)

/-- 'laws.FnExactJoinSamples': WHATEVER THE INPUT: true; the input reads as it did. -/
def fnExactJoinSamplesSpec : ChangeSpec := { name := "fnExactJoinSamples", fn := fun _ => fun
  | [d1, d2] => { results := [.lit (.bool true)], args := [d1, d2] }
  | _ => none }
def fnExactJoinSamplesRow : OpenClaim := { program := "ytplhcboecjegjaa", sum := "63ee3345fb02c1616a5a2a8cada7a538769157ff5bf5bc2d3c48f7aa46e075e1", func := "loop.example/g01135/laws.FnExactJoinSamples", spec := "fnExactJoinSamples", unfollowed := true, recurses := true, plainKeys := false, apart := false }
def FnExactJoinSamplesSaid : Prop := fnExactJoinSamplesRow.holds Try.pinned (OpenSpec.ofChange fnExactJoinSamplesSpec)

/-- ITS FALSE NEIGHBOUR: 'it returns false'. Refute it at one input. -/
def fnExactJoinSamplesWrong : ChangeSpec := { name := "fnExactJoinSamples", fn := fun _ => fun
  | [d1, d2] => { results := [.lit (.bool false)], args := [d1, d2] }
  | _ => none }
def FnExactJoinSamplesWrongFalsely : Prop := fnExactJoinSamplesRow.holds Try.pinned (OpenSpec.ofChange fnExactJoinSamplesWrong)

/-- 'laws.FnExactPocketPlane': WHATEVER THE INPUT: true; the input reads as it did. -/
def fnExactPocketPlaneSpec : ChangeSpec := { name := "fnExactPocketPlane", fn := fun _ => fun
  | [d1, d2] => { results := [.lit (.bool true)], args := [d1, d2] }
  | _ => none }
def fnExactPocketPlaneRow : OpenClaim := { program := "ytplhcboecjegjaa", sum := "63ee3345fb02c1616a5a2a8cada7a538769157ff5bf5bc2d3c48f7aa46e075e1", func := "loop.example/g01135/laws.FnExactPocketPlane", spec := "fnExactPocketPlane", unfollowed := true, recurses := true, plainKeys := false, apart := false }
def FnExactPocketPlaneSaid : Prop := fnExactPocketPlaneRow.holds Try.pinned (OpenSpec.ofChange fnExactPocketPlaneSpec)

/-- ITS FALSE NEIGHBOUR: 'it returns false'. Refute it at one input. -/
def fnExactPocketPlaneWrong : ChangeSpec := { name := "fnExactPocketPlane", fn := fun _ => fun
  | [d1, d2] => { results := [.lit (.bool false)], args := [d1, d2] }
  | _ => none }
def FnExactPocketPlaneWrongFalsely : Prop := fnExactPocketPlaneRow.holds Try.pinned (OpenSpec.ofChange fnExactPocketPlaneWrong)

/-- 'laws.FnExactCommonPoint': WHATEVER THE INPUT: true; the input reads as it did. -/
def fnExactCommonPointSpec : ChangeSpec := { name := "fnExactCommonPoint", fn := fun _ => fun
  | [d1, d2] => { results := [.lit (.bool true)], args := [d1, d2] }
  | _ => none }
def fnExactCommonPointRow : OpenClaim := { program := "ytplhcboecjegjaa", sum := "63ee3345fb02c1616a5a2a8cada7a538769157ff5bf5bc2d3c48f7aa46e075e1", func := "loop.example/g01135/laws.FnExactCommonPoint", spec := "fnExactCommonPoint", unfollowed := true, recurses := true, plainKeys := false, apart := false }
def FnExactCommonPointSaid : Prop := fnExactCommonPointRow.holds Try.pinned (OpenSpec.ofChange fnExactCommonPointSpec)

/-- ITS FALSE NEIGHBOUR: 'it returns false'. Refute it at one input. -/
def fnExactCommonPointWrong : ChangeSpec := { name := "fnExactCommonPoint", fn := fun _ => fun
  | [d1, d2] => { results := [.lit (.bool false)], args := [d1, d2] }
  | _ => none }
def FnExactCommonPointWrongFalsely : Prop := fnExactCommonPointRow.holds Try.pinned (OpenSpec.ofChange fnExactCommonPointWrong)

/-- 'laws.FnExactFirstConflict': WHATEVER THE INPUT: true; the input reads as it did. -/
def fnExactFirstConflictSpec : ChangeSpec := { name := "fnExactFirstConflict", fn := fun _ => fun
  | [d] => { results := [.lit (.bool true)], args := [d] }
  | _ => none }
def fnExactFirstConflictRow : OpenClaim := { program := "ytplhcboecjegjaa", sum := "63ee3345fb02c1616a5a2a8cada7a538769157ff5bf5bc2d3c48f7aa46e075e1", func := "loop.example/g01135/laws.FnExactFirstConflict", spec := "fnExactFirstConflict", unfollowed := true, recurses := true, plainKeys := false, apart := false }
def FnExactFirstConflictSaid : Prop := fnExactFirstConflictRow.holds Try.pinned (OpenSpec.ofChange fnExactFirstConflictSpec)

/-- ITS FALSE NEIGHBOUR: 'it returns false'. Refute it at one input. -/
def fnExactFirstConflictWrong : ChangeSpec := { name := "fnExactFirstConflict", fn := fun _ => fun
  | [d] => { results := [.lit (.bool false)], args := [d] }
  | _ => none }
def FnExactFirstConflictWrongFalsely : Prop := fnExactFirstConflictRow.holds Try.pinned (OpenSpec.ofChange fnExactFirstConflictWrong)

/-- 'laws.FnExactSmallPlane': WHATEVER THE INPUT: true; the input reads as it did. -/
def fnExactSmallPlaneSpec : ChangeSpec := { name := "fnExactSmallPlane", fn := fun _ => fun
  | [d1, d2] => { results := [.lit (.bool true)], args := [d1, d2] }
  | _ => none }
def fnExactSmallPlaneRow : OpenClaim := { program := "ytplhcboecjegjaa", sum := "63ee3345fb02c1616a5a2a8cada7a538769157ff5bf5bc2d3c48f7aa46e075e1", func := "loop.example/g01135/laws.FnExactSmallPlane", spec := "fnExactSmallPlane", unfollowed := true, recurses := true, plainKeys := false, apart := false }
def FnExactSmallPlaneSaid : Prop := fnExactSmallPlaneRow.holds Try.pinned (OpenSpec.ofChange fnExactSmallPlaneSpec)

/-- ITS FALSE NEIGHBOUR: 'it returns false'. Refute it at one input. -/
def fnExactSmallPlaneWrong : ChangeSpec := { name := "fnExactSmallPlane", fn := fun _ => fun
  | [d1, d2] => { results := [.lit (.bool false)], args := [d1, d2] }
  | _ => none }
def FnExactSmallPlaneWrongFalsely : Prop := fnExactSmallPlaneRow.holds Try.pinned (OpenSpec.ofChange fnExactSmallPlaneWrong)

/- THE SECOND FORM. 'bulk': how many values and letters a reading holds, each counted each time it is reached (what is shared counts as often as it is met; a slice's spare places count too). A statement '..UptoSaid' is the law's where the arguments, and the package variables that the reading takes, are together of bulk at most 1048576: NARROWER than '..Said'. Prove '..Said' where nothing that the law and all that it calls make is longer than what came in: it says more and counts as full. Else prove '..UptoSaid'. A law counts once. -/
mutual
def uptoBulk {H : Type} : DataW H → Nat
  | .lit (.string bytes) => bytes.length + 1
  | .lit _ => 1
  | .nil => 1
  | .ptr d => uptoBulk d + 1
  | .slice elems spare => uptoBulkAll elems + uptoBulkAll spare + 1
  | .agg parts => uptoBulkAll parts + 1
  | .iface _ d => uptoBulk d + 1
  | .map entries => uptoBulkEntries entries + 1
  | .held _ => 1
def uptoBulkAll {H : Type} : List (DataW H) → Nat
  | [] => 0
  | d :: r => uptoBulk d + uptoBulkAll r
def uptoBulkEntries {H : Type} : List (Lit × DataW H) → Nat
  | [] => 0
  | x :: r => uptoBulkEntry x + uptoBulkEntries r
def uptoBulkEntry {H : Type} : Lit × DataW H → Nat
  | (.string bytes, d) => bytes.length + uptoBulk d + 1
  | (_, d) => uptoBulk d + 1
 end
def uptoSmall : (H : Type) → List (DataW H) → Bool := fun _ ds => decide (uptoBulkAll ds ≤ 1048576)
def OpenSpec.upto (s : _root_.Go.ChangeSpec) : _root_.Go.OpenSpec := { _root_.Go.OpenSpec.ofChange s with cond := some uptoSmall }

/-- 'laws.FnExactLeastWins', WHERE WHAT IT READS IS OF BULK AT MOST 1048576: true; the input reads as it did. -/
def fnExactLeastWinsUptoRow : OpenClaim := { program := "ytplhcboecjegjaa", sum := "63ee3345fb02c1616a5a2a8cada7a538769157ff5bf5bc2d3c48f7aa46e075e1", func := "loop.example/g01135/laws.FnExactLeastWins", spec := "fnExactLeastWins", unfollowed := true, recurses := true, plainKeys := false, apart := false, narrowed := true }
def FnExactLeastWinsUptoSaid : Prop := fnExactLeastWinsUptoRow.holds Try.pinned (OpenSpec.upto fnExactLeastWinsSpec)

/-- 'laws.FnExactGreatestLosses', WHERE WHAT IT READS IS OF BULK AT MOST 1048576: true; the input reads as it did. -/
def fnExactGreatestLossesUptoRow : OpenClaim := { program := "ytplhcboecjegjaa", sum := "63ee3345fb02c1616a5a2a8cada7a538769157ff5bf5bc2d3c48f7aa46e075e1", func := "loop.example/g01135/laws.FnExactGreatestLosses", spec := "fnExactGreatestLosses", unfollowed := true, recurses := true, plainKeys := false, apart := false, narrowed := true }
def FnExactGreatestLossesUptoSaid : Prop := fnExactGreatestLossesUptoRow.holds Try.pinned (OpenSpec.upto fnExactGreatestLossesSpec)

/-- 'laws.FnExactSameWins', WHERE WHAT IT READS IS OF BULK AT MOST 1048576: true; the input reads as it did. -/
def fnExactSameWinsUptoRow : OpenClaim := { program := "ytplhcboecjegjaa", sum := "63ee3345fb02c1616a5a2a8cada7a538769157ff5bf5bc2d3c48f7aa46e075e1", func := "loop.example/g01135/laws.FnExactSameWins", spec := "fnExactSameWins", unfollowed := true, recurses := true, plainKeys := false, apart := false, narrowed := true }
def FnExactSameWinsUptoSaid : Prop := fnExactSameWinsUptoRow.holds Try.pinned (OpenSpec.upto fnExactSameWinsSpec)

/-- 'laws.FnExactQuotaSwings', WHERE WHAT IT READS IS OF BULK AT MOST 1048576: true; the input reads as it did. -/
def fnExactQuotaSwingsUptoRow : OpenClaim := { program := "ytplhcboecjegjaa", sum := "63ee3345fb02c1616a5a2a8cada7a538769157ff5bf5bc2d3c48f7aa46e075e1", func := "loop.example/g01135/laws.FnExactQuotaSwings", spec := "fnExactQuotaSwings", unfollowed := true, recurses := true, plainKeys := false, apart := false, narrowed := true }
def FnExactQuotaSwingsUptoSaid : Prop := fnExactQuotaSwingsUptoRow.holds Try.pinned (OpenSpec.upto fnExactQuotaSwingsSpec)

/-- 'laws.FnExactBothTable', WHERE WHAT IT READS IS OF BULK AT MOST 1048576: true; the input reads as it did. -/
def fnExactBothTableUptoRow : OpenClaim := { program := "ytplhcboecjegjaa", sum := "63ee3345fb02c1616a5a2a8cada7a538769157ff5bf5bc2d3c48f7aa46e075e1", func := "loop.example/g01135/laws.FnExactBothTable", spec := "fnExactBothTable", unfollowed := true, recurses := true, plainKeys := false, apart := false, narrowed := true }
def FnExactBothTableUptoSaid : Prop := fnExactBothTableUptoRow.holds Try.pinned (OpenSpec.upto fnExactBothTableSpec)

/-- 'laws.FnExactVoteOf', WHERE WHAT IT READS IS OF BULK AT MOST 1048576: true; the input reads as it did. -/
def fnExactVoteOfUptoRow : OpenClaim := { program := "ytplhcboecjegjaa", sum := "63ee3345fb02c1616a5a2a8cada7a538769157ff5bf5bc2d3c48f7aa46e075e1", func := "loop.example/g01135/laws.FnExactVoteOf", spec := "fnExactVoteOf", unfollowed := true, recurses := true, plainKeys := false, apart := false, narrowed := true }
def FnExactVoteOfUptoSaid : Prop := fnExactVoteOfUptoRow.holds Try.pinned (OpenSpec.upto fnExactVoteOfSpec)

/-- 'laws.FnExactCountThresholds', WHERE WHAT IT READS IS OF BULK AT MOST 1048576: true; the input reads as it did. -/
def fnExactCountThresholdsUptoRow : OpenClaim := { program := "ytplhcboecjegjaa", sum := "63ee3345fb02c1616a5a2a8cada7a538769157ff5bf5bc2d3c48f7aa46e075e1", func := "loop.example/g01135/laws.FnExactCountThresholds", spec := "fnExactCountThresholds", unfollowed := true, recurses := true, plainKeys := false, apart := false, narrowed := true }
def FnExactCountThresholdsUptoSaid : Prop := fnExactCountThresholdsUptoRow.holds Try.pinned (OpenSpec.upto fnExactCountThresholdsSpec)

/-- 'laws.FnExactJoinSamples', WHERE WHAT IT READS IS OF BULK AT MOST 1048576: true; the input reads as it did. -/
def fnExactJoinSamplesUptoRow : OpenClaim := { program := "ytplhcboecjegjaa", sum := "63ee3345fb02c1616a5a2a8cada7a538769157ff5bf5bc2d3c48f7aa46e075e1", func := "loop.example/g01135/laws.FnExactJoinSamples", spec := "fnExactJoinSamples", unfollowed := true, recurses := true, plainKeys := false, apart := false, narrowed := true }
def FnExactJoinSamplesUptoSaid : Prop := fnExactJoinSamplesUptoRow.holds Try.pinned (OpenSpec.upto fnExactJoinSamplesSpec)

/-- 'laws.FnExactPocketPlane', WHERE WHAT IT READS IS OF BULK AT MOST 1048576: true; the input reads as it did. -/
def fnExactPocketPlaneUptoRow : OpenClaim := { program := "ytplhcboecjegjaa", sum := "63ee3345fb02c1616a5a2a8cada7a538769157ff5bf5bc2d3c48f7aa46e075e1", func := "loop.example/g01135/laws.FnExactPocketPlane", spec := "fnExactPocketPlane", unfollowed := true, recurses := true, plainKeys := false, apart := false, narrowed := true }
def FnExactPocketPlaneUptoSaid : Prop := fnExactPocketPlaneUptoRow.holds Try.pinned (OpenSpec.upto fnExactPocketPlaneSpec)

/-- 'laws.FnExactCommonPoint', WHERE WHAT IT READS IS OF BULK AT MOST 1048576: true; the input reads as it did. -/
def fnExactCommonPointUptoRow : OpenClaim := { program := "ytplhcboecjegjaa", sum := "63ee3345fb02c1616a5a2a8cada7a538769157ff5bf5bc2d3c48f7aa46e075e1", func := "loop.example/g01135/laws.FnExactCommonPoint", spec := "fnExactCommonPoint", unfollowed := true, recurses := true, plainKeys := false, apart := false, narrowed := true }
def FnExactCommonPointUptoSaid : Prop := fnExactCommonPointUptoRow.holds Try.pinned (OpenSpec.upto fnExactCommonPointSpec)

/-- 'laws.FnExactFirstConflict', WHERE WHAT IT READS IS OF BULK AT MOST 1048576: true; the input reads as it did. -/
def fnExactFirstConflictUptoRow : OpenClaim := { program := "ytplhcboecjegjaa", sum := "63ee3345fb02c1616a5a2a8cada7a538769157ff5bf5bc2d3c48f7aa46e075e1", func := "loop.example/g01135/laws.FnExactFirstConflict", spec := "fnExactFirstConflict", unfollowed := true, recurses := true, plainKeys := false, apart := false, narrowed := true }
def FnExactFirstConflictUptoSaid : Prop := fnExactFirstConflictUptoRow.holds Try.pinned (OpenSpec.upto fnExactFirstConflictSpec)

/-- 'laws.FnExactSmallPlane', WHERE WHAT IT READS IS OF BULK AT MOST 1048576: true; the input reads as it did. -/
def fnExactSmallPlaneUptoRow : OpenClaim := { program := "ytplhcboecjegjaa", sum := "63ee3345fb02c1616a5a2a8cada7a538769157ff5bf5bc2d3c48f7aa46e075e1", func := "loop.example/g01135/laws.FnExactSmallPlane", spec := "fnExactSmallPlane", unfollowed := true, recurses := true, plainKeys := false, apart := false, narrowed := true }
def FnExactSmallPlaneUptoSaid : Prop := fnExactSmallPlaneUptoRow.holds Try.pinned (OpenSpec.upto fnExactSmallPlaneSpec)

end Rows
end Go.Proofs.Ytplhcboecjegjaa
