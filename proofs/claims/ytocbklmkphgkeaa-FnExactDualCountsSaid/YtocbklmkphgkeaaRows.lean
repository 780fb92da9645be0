/-
  No cell of these rows narrows 'for every input' (looked for: loops, veiled, ifaces, maps, wideKeys, modest, calm, conditions, laid).
  DERIVED. THE GIVEN ROWS OF THIS SEAT. 12 by the template 'for every input the law returns true; each argument reads behind the call as it read before'; 0 by the template 'total and deterministic' (their statements: YtocbklmkphgkeaaTotals.lean).
  GIVEN WITH THE SEED: the statements are not yours to turn. If you find one false, say at which input.
  Laid BY PROGRAM, IN A SANDBOX (cutbox-rows.mjs): the forced cells as the released guide's own fill.sh prints them over the translation 716a119f8dabdb21… (all of the seat's roots in one cut). By AI agents, Wed Nov 11 2026. No macro, syntax, notation, axiom, sorry.
-/
import Derived.Test.YtocbklmkphgkeaaChecked
import GoSem.Claim
import GoSem.ClaimJoined
import GoSem.ClaimMapViews
import Derived.JoinedTies
import Derived.KernelRfl
namespace Go.Proofs.Ytocbklmkphgkeaa
/- THE CELL 'sum', in the pinned program and in every row, IS THE sha256 OF THE DUMP (.gsa) THAT YtocbklmkphgkeaaProg.lean LOADS. Nothing in Lean hashes anything: it is a label: what it is worth is what the hold of that sum in a sandbox is worth. -/
noncomputable def Try.pinned : Pinned := { name := "ytocbklmkphgkeaa", sum := "716a119f8dabdb21759a1986ceed0e336d5b854abcbfd1522e6608f7eb2f5d0c", checked := Try.checked }
namespace Rows
def none {H : Type} : Left H := { results := [], args := [] }

/-- 'laws.FnExactMoveSample': WHATEVER THE INPUT: true; the input reads as it did. -/
def fnExactMoveSampleSpec : ChangeSpec := { name := "fnExactMoveSample", fn := fun _ => fun
  | [d1, d2] => { results := [.lit (.bool true)], args := [d1, d2] }
  | _ => none }
def fnExactMoveSampleRow : OpenClaim := { program := "ytocbklmkphgkeaa", sum := "716a119f8dabdb21759a1986ceed0e336d5b854abcbfd1522e6608f7eb2f5d0c", func := "loop.example/g01135/laws.FnExactMoveSample", spec := "fnExactMoveSample", unfollowed := true, recurses := true, plainKeys := false, apart := false }
def FnExactMoveSampleSaid : Prop := fnExactMoveSampleRow.holds Try.pinned (OpenSpec.ofChange fnExactMoveSampleSpec)

/-- ITS FALSE NEIGHBOUR: 'it returns false'. Refute it at one input. -/
def fnExactMoveSampleWrong : ChangeSpec := { name := "fnExactMoveSample", fn := fun _ => fun
  | [d1, d2] => { results := [.lit (.bool false)], args := [d1, d2] }
  | _ => none }
def FnExactMoveSampleWrongFalsely : Prop := fnExactMoveSampleRow.holds Try.pinned (OpenSpec.ofChange fnExactMoveSampleWrong)

/-- 'laws.FnExactLiftSample': WHATEVER THE INPUT: true; the input reads as it did. -/
def fnExactLiftSampleSpec : ChangeSpec := { name := "fnExactLiftSample", fn := fun _ => fun
  | [d] => { results := [.lit (.bool true)], args := [d] }
  | _ => none }
def fnExactLiftSampleRow : OpenClaim := { program := "ytocbklmkphgkeaa", sum := "716a119f8dabdb21759a1986ceed0e336d5b854abcbfd1522e6608f7eb2f5d0c", func := "loop.example/g01135/laws.FnExactLiftSample", spec := "fnExactLiftSample", unfollowed := true, recurses := true, plainKeys := false, apart := false }
def FnExactLiftSampleSaid : Prop := fnExactLiftSampleRow.holds Try.pinned (OpenSpec.ofChange fnExactLiftSampleSpec)

/-- ITS FALSE NEIGHBOUR: 'it returns false'. Refute it at one input. -/
def fnExactLiftSampleWrong : ChangeSpec := { name := "fnExactLiftSample", fn := fun _ => fun
  | [d] => { results := [.lit (.bool false)], args := [d] }
  | _ => none }
def FnExactLiftSampleWrongFalsely : Prop := fnExactLiftSampleRow.holds Try.pinned (OpenSpec.ofChange fnExactLiftSampleWrong)

/-- 'laws.FnExactJoinSamples': WHATEVER THE INPUT: true; the input reads as it did. -/
def fnExactJoinSamplesSpec : ChangeSpec := { name := "fnExactJoinSamples", fn := fun _ => fun
  | [d1, d2] => { results := [.lit (.bool true)], args := [d1, d2] }
  | _ => none }
def fnExactJoinSamplesRow : OpenClaim := { program := "ytocbklmkphgkeaa", sum := "716a119f8dabdb21759a1986ceed0e336d5b854abcbfd1522e6608f7eb2f5d0c", func := "loop.example/g01135/laws.FnExactJoinSamples", spec := "fnExactJoinSamples", unfollowed := true, recurses := true, plainKeys := false, apart := false }
def FnExactJoinSamplesSaid : Prop := fnExactJoinSamplesRow.holds Try.pinned (OpenSpec.ofChange fnExactJoinSamplesSpec)

/-- ITS FALSE NEIGHBOUR: 'it returns false'. Refute it at one input. -/
def fnExactJoinSamplesWrong : ChangeSpec := { name := "fnExactJoinSamples", fn := fun _ => fun
  | [d1, d2] => { results := [.lit (.bool false)], args := [d1, d2] }
  | _ => none }
def FnExactJoinSamplesWrongFalsely : Prop := fnExactJoinSamplesRow.holds Try.pinned (OpenSpec.ofChange fnExactJoinSamplesWrong)

/-- 'laws.FnExactFirstConflict': WHATEVER THE INPUT: true; the input reads as it did. -/
def fnExactFirstConflictSpec : ChangeSpec := { name := "fnExactFirstConflict", fn := fun _ => fun
  | [d] => { results := [.lit (.bool true)], args := [d] }
  | _ => none }
def fnExactFirstConflictRow : OpenClaim := { program := "ytocbklmkphgkeaa", sum := "716a119f8dabdb21759a1986ceed0e336d5b854abcbfd1522e6608f7eb2f5d0c", func := "loop.example/g01135/laws.FnExactFirstConflict", spec := "fnExactFirstConflict", unfollowed := true, recurses := true, plainKeys := false, apart := false }
def FnExactFirstConflictSaid : Prop := fnExactFirstConflictRow.holds Try.pinned (OpenSpec.ofChange fnExactFirstConflictSpec)

/-- ITS FALSE NEIGHBOUR: 'it returns false'. Refute it at one input. -/
def fnExactFirstConflictWrong : ChangeSpec := { name := "fnExactFirstConflict", fn := fun _ => fun
  | [d] => { results := [.lit (.bool false)], args := [d] }
  | _ => none }
def FnExactFirstConflictWrongFalsely : Prop := fnExactFirstConflictRow.holds Try.pinned (OpenSpec.ofChange fnExactFirstConflictWrong)

/-- 'laws.FnBits': WHATEVER THE INPUT: true; the input reads as it did. -/
def fnBitsSpec : ChangeSpec := { name := "fnBits", fn := fun _ => fun
  | [d] => { results := [.lit (.bool true)], args := [d] }
  | _ => none }
def fnBitsRow : OpenClaim := { program := "ytocbklmkphgkeaa", sum := "716a119f8dabdb21759a1986ceed0e336d5b854abcbfd1522e6608f7eb2f5d0c", func := "loop.example/g01135/laws.FnBits", spec := "fnBits", unfollowed := true, recurses := true, plainKeys := false, apart := false }
def FnBitsSaid : Prop := fnBitsRow.holds Try.pinned (OpenSpec.ofChange fnBitsSpec)

/-- ITS FALSE NEIGHBOUR: 'it returns false'. Refute it at one input. -/
def fnBitsWrong : ChangeSpec := { name := "fnBits", fn := fun _ => fun
  | [d] => { results := [.lit (.bool false)], args := [d] }
  | _ => none }
def FnBitsWrongFalsely : Prop := fnBitsRow.holds Try.pinned (OpenSpec.ofChange fnBitsWrong)

/-- 'laws.FnExactStepPerceptron': WHATEVER THE INPUT: true; the input reads as it did. -/
def fnExactStepPerceptronSpec : ChangeSpec := { name := "fnExactStepPerceptron", fn := fun _ => fun
  | [d1, d2, d3] => { results := [.lit (.bool true)], args := [d1, d2, d3] }
  | _ => none }
def fnExactStepPerceptronRow : OpenClaim := { program := "ytocbklmkphgkeaa", sum := "716a119f8dabdb21759a1986ceed0e336d5b854abcbfd1522e6608f7eb2f5d0c", func := "loop.example/g01135/laws.FnExactStepPerceptron", spec := "fnExactStepPerceptron", plainKeys := false, apart := false }
def FnExactStepPerceptronSaid : Prop := fnExactStepPerceptronRow.holds Try.pinned (OpenSpec.ofChange fnExactStepPerceptronSpec)

/-- ITS FALSE NEIGHBOUR: 'it returns false'. Refute it at one input. -/
def fnExactStepPerceptronWrong : ChangeSpec := { name := "fnExactStepPerceptron", fn := fun _ => fun
  | [d1, d2, d3] => { results := [.lit (.bool false)], args := [d1, d2, d3] }
  | _ => none }
def FnExactStepPerceptronWrongFalsely : Prop := fnExactStepPerceptronRow.holds Try.pinned (OpenSpec.ofChange fnExactStepPerceptronWrong)

/-- 'laws.FnExactRunPerceptron': WHATEVER THE INPUT: true; the input reads as it did. -/
def fnExactRunPerceptronSpec : ChangeSpec := { name := "fnExactRunPerceptron", fn := fun _ => fun
  | [d1, d2] => { results := [.lit (.bool true)], args := [d1, d2] }
  | _ => none }
def fnExactRunPerceptronRow : OpenClaim := { program := "ytocbklmkphgkeaa", sum := "716a119f8dabdb21759a1986ceed0e336d5b854abcbfd1522e6608f7eb2f5d0c", func := "loop.example/g01135/laws.FnExactRunPerceptron", spec := "fnExactRunPerceptron", unfollowed := true, recurses := true, plainKeys := false, apart := false }
def FnExactRunPerceptronSaid : Prop := fnExactRunPerceptronRow.holds Try.pinned (OpenSpec.ofChange fnExactRunPerceptronSpec)

/-- ITS FALSE NEIGHBOUR: 'it returns false'. Refute it at one input. -/
def fnExactRunPerceptronWrong : ChangeSpec := { name := "fnExactRunPerceptron", fn := fun _ => fun
  | [d1, d2] => { results := [.lit (.bool false)], args := [d1, d2] }
  | _ => none }
def FnExactRunPerceptronWrongFalsely : Prop := fnExactRunPerceptronRow.holds Try.pinned (OpenSpec.ofChange fnExactRunPerceptronWrong)

/-- 'laws.FnExactPerceptronTrace': WHATEVER THE INPUT: true; the input reads as it did. -/
def fnExactPerceptronTraceSpec : ChangeSpec := { name := "fnExactPerceptronTrace", fn := fun _ => fun
  | [d1, d2] => { results := [.lit (.bool true)], args := [d1, d2] }
  | _ => none }
def fnExactPerceptronTraceRow : OpenClaim := { program := "ytocbklmkphgkeaa", sum := "716a119f8dabdb21759a1986ceed0e336d5b854abcbfd1522e6608f7eb2f5d0c", func := "loop.example/g01135/laws.FnExactPerceptronTrace", spec := "fnExactPerceptronTrace", unfollowed := true, recurses := true, plainKeys := false, apart := false }
def FnExactPerceptronTraceSaid : Prop := fnExactPerceptronTraceRow.holds Try.pinned (OpenSpec.ofChange fnExactPerceptronTraceSpec)

/-- ITS FALSE NEIGHBOUR: 'it returns false'. Refute it at one input. -/
def fnExactPerceptronTraceWrong : ChangeSpec := { name := "fnExactPerceptronTrace", fn := fun _ => fun
  | [d1, d2] => { results := [.lit (.bool false)], args := [d1, d2] }
  | _ => none }
def FnExactPerceptronTraceWrongFalsely : Prop := fnExactPerceptronTraceRow.holds Try.pinned (OpenSpec.ofChange fnExactPerceptronTraceWrong)

/-- 'laws.FnExactDualCounts': WHATEVER THE INPUT: true; the input reads as it did. -/
def fnExactDualCountsSpec : ChangeSpec := { name := "fnExactDualCounts", fn := fun _ => fun
  | [d1, d2] => { results := [.lit (.bool true)], args := [d1, d2] }
  | _ => none }
def fnExactDualCountsRow : OpenClaim := { program := "ytocbklmkphgkeaa", sum := "716a119f8dabdb21759a1986ceed0e336d5b854abcbfd1522e6608f7eb2f5d0c", func := "loop.example/g01135/laws.FnExactDualCounts", spec := "fnExactDualCounts", unfollowed := true, recurses := true, plainKeys := false, apart := false }
def FnExactDualCountsSaid : Prop := fnExactDualCountsRow.holds Try.pinned (OpenSpec.ofChange fnExactDualCountsSpec)

/-- ITS FALSE NEIGHBOUR: 'it returns false'. Refute it at one input. -/
def fnExactDualCountsWrong : ChangeSpec := { name := "fnExactDualCounts", fn := fun _ => fun
  | [d1, d2] => { results := [.lit (.bool false)], args := [d1, d2] }
  | _ => none }
def FnExactDualCountsWrongFalsely : Prop := fnExactDualCountsRow.holds Try.pinned (OpenSpec.ofChange fnExactDualCountsWrong)

/-- 'laws.FnExactPlaneOfCounts': WHATEVER THE INPUT: true; the input reads as it did. -/
def fnExactPlaneOfCountsSpec : ChangeSpec := { name := "fnExactPlaneOfCounts", fn := fun _ => fun
  | [d1, d2] => { results := [.lit (.bool true)], args := [d1, d2] }
  | _ => none }
def fnExactPlaneOfCountsRow : OpenClaim := { program := "ytocbklmkphgkeaa", sum := "716a119f8dabdb21759a1986ceed0e336d5b854abcbfd1522e6608f7eb2f5d0c", func := "loop.example/g01135/laws.FnExactPlaneOfCounts", spec := "fnExactPlaneOfCounts", unfollowed := true, recurses := true, plainKeys := false, apart := false }
def FnExactPlaneOfCountsSaid : Prop := fnExactPlaneOfCountsRow.holds Try.pinned (OpenSpec.ofChange fnExactPlaneOfCountsSpec)

/-- ITS FALSE NEIGHBOUR: 'it returns false'. Refute it at one input. -/
def fnExactPlaneOfCountsWrong : ChangeSpec := { name := "fnExactPlaneOfCounts", fn := fun _ => fun
  | [d1, d2] => { results := [.lit (.bool false)], args := [d1, d2] }
  | _ => none }
def FnExactPlaneOfCountsWrongFalsely : Prop := fnExactPlaneOfCountsRow.holds Try.pinned (OpenSpec.ofChange fnExactPlaneOfCountsWrong)

/-- 'laws.FnExactPocketPlane': WHATEVER THE INPUT: true; the input reads as it did. -/
def fnExactPocketPlaneSpec : ChangeSpec := { name := "fnExactPocketPlane", fn := fun _ => fun
  | [d1, d2] => { results := [.lit (.bool true)], args := [d1, d2] }
  | _ => none }
def fnExactPocketPlaneRow : OpenClaim := { program := "ytocbklmkphgkeaa", sum := "716a119f8dabdb21759a1986ceed0e336d5b854abcbfd1522e6608f7eb2f5d0c", func := "loop.example/g01135/laws.FnExactPocketPlane", spec := "fnExactPocketPlane", unfollowed := true, recurses := true, plainKeys := false, apart := false }
def FnExactPocketPlaneSaid : Prop := fnExactPocketPlaneRow.holds Try.pinned (OpenSpec.ofChange fnExactPocketPlaneSpec)

/-- ITS FALSE NEIGHBOUR: 'it returns false'. Refute it at one input. -/
def fnExactPocketPlaneWrong : ChangeSpec := { name := "fnExactPocketPlane", fn := fun _ => fun
  | [d1, d2] => { results := [.lit (.bool false)], args := [d1, d2] }
  | _ => none }
def FnExactPocketPlaneWrongFalsely : Prop := fnExactPocketPlaneRow.holds Try.pinned (OpenSpec.ofChange fnExactPocketPlaneWrong)

/-- 'laws.FnExactRunWinnow': WHATEVER THE INPUT: true; the input reads as it did. -/
def fnExactRunWinnowSpec : ChangeSpec := { name := "fnExactRunWinnow", fn := fun _ => fun
  | [d1, d2, d3] => { results := [.lit (.bool true)], args := [d1, d2, d3] }
  | _ => none }
def fnExactRunWinnowRow : OpenClaim := { program := "ytocbklmkphgkeaa", sum := "716a119f8dabdb21759a1986ceed0e336d5b854abcbfd1522e6608f7eb2f5d0c", func := "loop.example/g01135/laws.FnExactRunWinnow", spec := "fnExactRunWinnow", unfollowed := true, recurses := true, plainKeys := false, apart := false }
def FnExactRunWinnowSaid : Prop := fnExactRunWinnowRow.holds Try.pinned (OpenSpec.ofChange fnExactRunWinnowSpec)

/-- ITS FALSE NEIGHBOUR: 'it returns false'. Refute it at one input. -/
def fnExactRunWinnowWrong : ChangeSpec := { name := "fnExactRunWinnow", fn := fun _ => fun
  | [d1, d2, d3] => { results := [.lit (.bool false)], args := [d1, d2, d3] }
  | _ => none }
def FnExactRunWinnowWrongFalsely : Prop := fnExactRunWinnowRow.holds Try.pinned (OpenSpec.ofChange fnExactRunWinnowWrong)

/- THE SECOND FORM. 'bulk': how many values and letters a reading holds, each counted each time it is reached (what is shared counts as often as it is met; a slice's spare places count too). A statement '..UptoSaid' is the law's where the arguments, and the package variables that the reading takes, are together of bulk at most 1048576: NARROWER than '..Said'. Prove '..Said' where nothing that the law and all that it calls make is longer than what came in: it says more and counts as full. Else prove '..UptoSaid'. A law counts once. -/
mutual
def uptoBulk {H : Type} : DataW H → Nat
  | .lit (.string bytes) => bytes.length + 1
  | .lit _ => 1
  | .nil => 1
  | .ptr d => uptoBulk d + 1
  | .slice elems spare => uptoBulkAll elems + uptoBulkAll spare + 1
  | .agg parts => uptoBulkAll parts + 1
  | .iface _ d => uptoBulk d + 1
  | .map entries => uptoBulkEntries entries + 1
  | .held _ => 1
def uptoBulkAll {H : Type} : List (DataW H) → Nat
  | [] => 0
  | d :: r => uptoBulk d + uptoBulkAll r
def uptoBulkEntries {H : Type} : List (Lit × DataW H) → Nat
  | [] => 0
  | x :: r => uptoBulkEntry x + uptoBulkEntries r
def uptoBulkEntry {H : Type} : Lit × DataW H → Nat
  | (.string bytes, d) => bytes.length + uptoBulk d + 1
  | (_, d) => uptoBulk d + 1
 end
def uptoSmall : (H : Type) → List (DataW H) → Bool := fun _ ds => decide (uptoBulkAll ds ≤ 1048576)
def OpenSpec.upto (s : _root_.Go.ChangeSpec) : _root_.Go.OpenSpec := { _root_.Go.OpenSpec.ofChange s with cond := some uptoSmall }

/-- 'laws.FnExactMoveSample', WHERE WHAT IT READS IS OF BULK AT MOST 1048576: true; the input reads as it did. -/
def fnExactMoveSampleUptoRow : OpenClaim := { program := "ytocbklmkphgkeaa", sum := "716a119f8dabdb21759a1986ceed0e336d5b854abcbfd1522e6608f7eb2f5d0c", func := "loop.example/g01135/laws.FnExactMoveSample", spec := "fnExactMoveSample", unfollowed := true, recurses := true, plainKeys := false, apart := false, narrowed := true }
def FnExactMoveSampleUptoSaid : Prop := fnExactMoveSampleUptoRow.holds Try.pinned (OpenSpec.upto fnExactMoveSampleSpec)

/-- 'laws.FnExactLiftSample', WHERE WHAT IT READS IS OF BULK AT MOST 1048576: true; the input reads as it did. -/
def fnExactLiftSampleUptoRow : OpenClaim := { program := "ytocbklmkphgkeaa", sum := "716a119f8dabdb21759a1986ceed0e336d5b854abcbfd1522e6608f7eb2f5d0c", func := "loop.example/g01135/laws.FnExactLiftSample", spec := "fnExactLiftSample", unfollowed := true, recurses := true, plainKeys := false, apart := false, narrowed := true }
def FnExactLiftSampleUptoSaid : Prop := fnExactLiftSampleUptoRow.holds Try.pinned (OpenSpec.upto fnExactLiftSampleSpec)

/-- 'laws.FnExactJoinSamples', WHERE WHAT IT READS IS OF BULK AT MOST 1048576: true; the input reads as it did. -/
def fnExactJoinSamplesUptoRow : OpenClaim := { program := "ytocbklmkphgkeaa", sum := "716a119f8dabdb21759a1986ceed0e336d5b854abcbfd1522e6608f7eb2f5d0c", func := "loop.example/g01135/laws.FnExactJoinSamples", spec := "fnExactJoinSamples", unfollowed := true, recurses := true, plainKeys := false, apart := false, narrowed := true }
def FnExactJoinSamplesUptoSaid : Prop := fnExactJoinSamplesUptoRow.holds Try.pinned (OpenSpec.upto fnExactJoinSamplesSpec)

/-- 'laws.FnExactFirstConflict', WHERE WHAT IT READS IS OF BULK AT MOST 1048576: true; the input reads as it did. -/
def fnExactFirstConflictUptoRow : OpenClaim := { program := "ytocbklmkphgkeaa", sum := "716a119f8dabdb21759a1986ceed0e336d5b854abcbfd1522e6608f7eb2f5d0c", func := "loop.example/g01135/laws.FnExactFirstConflict", spec := "fnExactFirstConflict", unfollowed := true, recurses := true, plainKeys := false, apart := false, narrowed := true }
def FnExactFirstConflictUptoSaid : Prop := fnExactFirstConflictUptoRow.holds Try.pinned (OpenSpec.upto fnExactFirstConflictSpec)

/-- 'laws.FnBits', WHERE WHAT IT READS IS OF BULK AT MOST 1048576: true; the input reads as it did. -/
def fnBitsUptoRow : OpenClaim := { program := "ytocbklmkphgkeaa", sum := "716a119f8dabdb21759a1986ceed0e336d5b854abcbfd1522e6608f7eb2f5d0c", func := "loop.example/g01135/laws.FnBits", spec := "fnBits", unfollowed := true, recurses := true, plainKeys := false, apart := false, narrowed := true }
def FnBitsUptoSaid : Prop := fnBitsUptoRow.holds Try.pinned (OpenSpec.upto fnBitsSpec)

/-- 'laws.FnExactStepPerceptron', WHERE WHAT IT READS IS OF BULK AT MOST 1048576: true; the input reads as it did. -/
def fnExactStepPerceptronUptoRow : OpenClaim := { program := "ytocbklmkphgkeaa", sum := "716a119f8dabdb21759a1986ceed0e336d5b854abcbfd1522e6608f7eb2f5d0c", func := "loop.example/g01135/laws.FnExactStepPerceptron", spec := "fnExactStepPerceptron", plainKeys := false, apart := false, narrowed := true }
def FnExactStepPerceptronUptoSaid : Prop := fnExactStepPerceptronUptoRow.holds Try.pinned (OpenSpec.upto fnExactStepPerceptronSpec)

/-- 'laws.FnExactRunPerceptron', WHERE WHAT IT READS IS OF BULK AT MOST 1048576: true; the input reads as it did. -/
def fnExactRunPerceptronUptoRow : OpenClaim := { program := "ytocbklmkphgkeaa", sum := "716a119f8dabdb21759a1986ceed0e336d5b854abcbfd1522e6608f7eb2f5d0c", func := "loop.example/g01135/laws.FnExactRunPerceptron", spec := "fnExactRunPerceptron", unfollowed := true, recurses := true, plainKeys := false, apart := false, narrowed := true }
def FnExactRunPerceptronUptoSaid : Prop := fnExactRunPerceptronUptoRow.holds Try.pinned (OpenSpec.upto fnExactRunPerceptronSpec)

/-- 'laws.FnExactPerceptronTrace', WHERE WHAT IT READS IS OF BULK AT MOST 1048576: true; the input reads as it did. -/
def fnExactPerceptronTraceUptoRow : OpenClaim := { program := "ytocbklmkphgkeaa", sum := "716a119f8dabdb21759a1986ceed0e336d5b854abcbfd1522e6608f7eb2f5d0c", func := "loop.example/g01135/laws.FnExactPerceptronTrace", spec := "fnExactPerceptronTrace", unfollowed := true, recurses := true, plainKeys := false, apart := false, narrowed := true }
def FnExactPerceptronTraceUptoSaid : Prop := fnExactPerceptronTraceUptoRow.holds Try.pinned (OpenSpec.upto fnExactPerceptronTraceSpec)

/-- 'laws.FnExactDualCounts', WHERE WHAT IT READS IS OF BULK AT MOST 1048576: true; the input reads as it did. -/
def fnExactDualCountsUptoRow : OpenClaim := { program := "ytocbklmkphgkeaa", sum := "716a119f8dabdb21759a1986ceed0e336d5b854abcbfd1522e6608f7eb2f5d0c", func := "loop.example/g01135/laws.FnExactDualCounts", spec := "fnExactDualCounts", unfollowed := true, recurses := true, plainKeys := false, apart := false, narrowed := true }
def FnExactDualCountsUptoSaid : Prop := fnExactDualCountsUptoRow.holds Try.pinned (OpenSpec.upto fnExactDualCountsSpec)

/-- 'laws.FnExactPlaneOfCounts', WHERE WHAT IT READS IS OF BULK AT MOST 1048576: true; the input reads as it did. -/
def fnExactPlaneOfCountsUptoRow : OpenClaim := { program := "ytocbklmkphgkeaa", sum := "716a119f8dabdb21759a1986ceed0e336d5b854abcbfd1522e6608f7eb2f5d0c", func := "loop.example/g01135/laws.FnExactPlaneOfCounts", spec := "fnExactPlaneOfCounts", unfollowed := true, recurses := true, plainKeys := false, apart := false, narrowed := true }
def FnExactPlaneOfCountsUptoSaid : Prop := fnExactPlaneOfCountsUptoRow.holds Try.pinned (OpenSpec.upto fnExactPlaneOfCountsSpec)

/-- 'laws.FnExactPocketPlane', WHERE WHAT IT READS IS OF BULK AT MOST 1048576: true; the input reads as it did. -/
def fnExactPocketPlaneUptoRow : OpenClaim := { program := "ytocbklmkphgkeaa", sum := "716a119f8dabdb21759a1986ceed0e336d5b854abcbfd1522e6608f7eb2f5d0c", func := "loop.example/g01135/laws.FnExactPocketPlane", spec := "fnExactPocketPlane", unfollowed := true, recurses := true, plainKeys := false, apart := false, narrowed := true }
def FnExactPocketPlaneUptoSaid : Prop := fnExactPocketPlaneUptoRow.holds Try.pinned (OpenSpec.upto fnExactPocketPlaneSpec)

/-- 'laws.FnExactRunWinnow', WHERE WHAT IT READS IS OF BULK AT MOST 1048576: true; the input reads as it did. -/
def fnExactRunWinnowUptoRow : OpenClaim := { program := "ytocbklmkphgkeaa", sum := "716a119f8dabdb21759a1986ceed0e336d5b854abcbfd1522e6608f7eb2f5d0c", func := "loop.example/g01135/laws.FnExactRunWinnow", spec := "fnExactRunWinnow", unfollowed := true, recurses := true, plainKeys := false, apart := false, narrowed := true }
def FnExactRunWinnowUptoSaid : Prop := fnExactRunWinnowUptoRow.holds Try.pinned (OpenSpec.upto fnExactRunWinnowSpec)

end Rows
end Go.Proofs.Ytocbklmkphgkeaa
