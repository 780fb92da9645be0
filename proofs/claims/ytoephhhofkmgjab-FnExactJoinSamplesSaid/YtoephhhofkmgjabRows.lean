/-
  No cell of these rows narrows 'for every input' (looked for: loops, veiled, ifaces, maps, wideKeys, modest, calm, conditions, laid).
  DERIVED. THE GIVEN ROWS OF THIS SEAT. 5 by the template 'for every input the law returns true; each argument reads behind the call as it read before'; 0 by the template 'total and deterministic' (their statements: YtoephhhofkmgjabTotals.lean).
  GIVEN WITH THE SEED: the statements are not yours to turn. If you find one false, say at which input.
  Laid BY PROGRAM, IN A SANDBOX (cutbox-rows.mjs): the forced cells as the released guide's own fill.sh prints them over the translation f1ffc0905c61426e… (all of the seat's roots in one cut). By AI agents, Wed Nov 11 2026. No macro, syntax, notation, axiom, sorry.
-/
import Derived.Test.YtoephhhofkmgjabChecked
import GoSem.Claim
import GoSem.ClaimJoined
import GoSem.ClaimMapViews
import Derived.JoinedTies
import Derived.KernelRfl
namespace Go.Proofs.Ytoephhhofkmgjab
/- THE CELL 'sum', in the pinned program and in every row, IS THE sha256 OF THE DUMP (.gsa) THAT YtoephhhofkmgjabProg.lean LOADS. Nothing in Lean hashes anything: it is a label: what it is worth is what the hold of that sum in a sandbox is worth. -/
noncomputable def Try.pinned : Pinned := { name := "ytoephhhofkmgjab", sum := "f1ffc0905c61426e13b1f63baf056aeb0a1f23f37a0e8a250631f131f366b09f", checked := Try.checked }
namespace Rows
def none {H : Type} : Left H := { results := [], args := [] }

/-- 'laws.FnExactGatesNeeded': WHATEVER THE INPUT: true; the input reads as it did. -/
def fnExactGatesNeededSpec : ChangeSpec := { name := "fnExactGatesNeeded", fn := fun _ => fun
  | [d1, d2] => { results := [.lit (.bool true)], args := [d1, d2] }
  | _ => none }
def fnExactGatesNeededRow : OpenClaim := { program := "ytoephhhofkmgjab", sum := "f1ffc0905c61426e13b1f63baf056aeb0a1f23f37a0e8a250631f131f366b09f", func := "loop.example/g01135/laws.FnExactGatesNeeded", spec := "fnExactGatesNeeded", unfollowed := true, recurses := true, apart := false }
def FnExactGatesNeededSaid : Prop := fnExactGatesNeededRow.holds Try.pinned (OpenSpec.ofChange fnExactGatesNeededSpec)

/-- ITS FALSE NEIGHBOUR: 'it returns false'. Refute it at one input. -/
def fnExactGatesNeededWrong : ChangeSpec := { name := "fnExactGatesNeeded", fn := fun _ => fun
  | [d1, d2] => { results := [.lit (.bool false)], args := [d1, d2] }
  | _ => none }
def FnExactGatesNeededWrongFalsely : Prop := fnExactGatesNeededRow.holds Try.pinned (OpenSpec.ofChange fnExactGatesNeededWrong)

/-- 'laws.FnExactFindPair': WHATEVER THE INPUT: true; the input reads as it did. -/
def fnExactFindPairSpec : ChangeSpec := { name := "fnExactFindPair", fn := fun _ => fun
  | [d1, d2] => { results := [.lit (.bool true)], args := [d1, d2] }
  | _ => none }
def fnExactFindPairRow : OpenClaim := { program := "ytoephhhofkmgjab", sum := "f1ffc0905c61426e13b1f63baf056aeb0a1f23f37a0e8a250631f131f366b09f", func := "loop.example/g01135/laws.FnExactFindPair", spec := "fnExactFindPair", unfollowed := true, recurses := true, apart := false }
def FnExactFindPairSaid : Prop := fnExactFindPairRow.holds Try.pinned (OpenSpec.ofChange fnExactFindPairSpec)

/-- ITS FALSE NEIGHBOUR: 'it returns false'. Refute it at one input. -/
def fnExactFindPairWrong : ChangeSpec := { name := "fnExactFindPair", fn := fun _ => fun
  | [d1, d2] => { results := [.lit (.bool false)], args := [d1, d2] }
  | _ => none }
def FnExactFindPairWrongFalsely : Prop := fnExactFindPairRow.holds Try.pinned (OpenSpec.ofChange fnExactFindPairWrong)

/-- 'laws.FnExactNetOfPair': WHATEVER THE INPUT: true; the input reads as it did. -/
def fnExactNetOfPairSpec : ChangeSpec := { name := "fnExactNetOfPair", fn := fun _ => fun
  | [d1, d2] => { results := [.lit (.bool true)], args := [d1, d2] }
  | _ => none }
def fnExactNetOfPairRow : OpenClaim := { program := "ytoephhhofkmgjab", sum := "f1ffc0905c61426e13b1f63baf056aeb0a1f23f37a0e8a250631f131f366b09f", func := "loop.example/g01135/laws.FnExactNetOfPair", spec := "fnExactNetOfPair", unfollowed := true, recurses := true, apart := false }
def FnExactNetOfPairSaid : Prop := fnExactNetOfPairRow.holds Try.pinned (OpenSpec.ofChange fnExactNetOfPairSpec)

/-- ITS FALSE NEIGHBOUR: 'it returns false'. Refute it at one input. -/
def fnExactNetOfPairWrong : ChangeSpec := { name := "fnExactNetOfPair", fn := fun _ => fun
  | [d1, d2] => { results := [.lit (.bool false)], args := [d1, d2] }
  | _ => none }
def FnExactNetOfPairWrongFalsely : Prop := fnExactNetOfPairRow.holds Try.pinned (OpenSpec.ofChange fnExactNetOfPairWrong)

/-- 'laws.FnExactSinglePlane': WHATEVER THE INPUT: true; the input reads as it did. -/
def fnExactSinglePlaneSpec : ChangeSpec := { name := "fnExactSinglePlane", fn := fun _ => fun
  | [d] => { results := [.lit (.bool true)], args := [d] }
  | _ => none }
def fnExactSinglePlaneRow : OpenClaim := { program := "ytoephhhofkmgjab", sum := "f1ffc0905c61426e13b1f63baf056aeb0a1f23f37a0e8a250631f131f366b09f", func := "loop.example/g01135/laws.FnExactSinglePlane", spec := "fnExactSinglePlane", unfollowed := true, recurses := true, apart := false }
def FnExactSinglePlaneSaid : Prop := fnExactSinglePlaneRow.holds Try.pinned (OpenSpec.ofChange fnExactSinglePlaneSpec)

/-- ITS FALSE NEIGHBOUR: 'it returns false'. Refute it at one input. -/
def fnExactSinglePlaneWrong : ChangeSpec := { name := "fnExactSinglePlane", fn := fun _ => fun
  | [d] => { results := [.lit (.bool false)], args := [d] }
  | _ => none }
def FnExactSinglePlaneWrongFalsely : Prop := fnExactSinglePlaneRow.holds Try.pinned (OpenSpec.ofChange fnExactSinglePlaneWrong)

/-- 'laws.FnExactJoinSamples': WHATEVER THE INPUT: true; the input reads as it did. -/
def fnExactJoinSamplesSpec : ChangeSpec := { name := "fnExactJoinSamples", fn := fun _ => fun
  | [d1, d2] => { results := [.lit (.bool true)], args := [d1, d2] }
  | _ => none }
def fnExactJoinSamplesRow : OpenClaim := { program := "ytoephhhofkmgjab", sum := "f1ffc0905c61426e13b1f63baf056aeb0a1f23f37a0e8a250631f131f366b09f", func := "loop.example/g01135/laws.FnExactJoinSamples", spec := "fnExactJoinSamples", unfollowed := true, recurses := true, apart := false }
def FnExactJoinSamplesSaid : Prop := fnExactJoinSamplesRow.holds Try.pinned (OpenSpec.ofChange fnExactJoinSamplesSpec)

/-- ITS FALSE NEIGHBOUR: 'it returns false'. Refute it at one input. -/
def fnExactJoinSamplesWrong : ChangeSpec := { name := "fnExactJoinSamples", fn := fun _ => fun
  | [d1, d2] => { results := [.lit (.bool false)], args := [d1, d2] }
  | _ => none }
def FnExactJoinSamplesWrongFalsely : Prop := fnExactJoinSamplesRow.holds Try.pinned (OpenSpec.ofChange fnExactJoinSamplesWrong)

/- THE SECOND FORM. 'bulk': how many values and letters a reading holds, each counted each time it is reached (what is shared counts as often as it is met; a slice's spare places count too). A statement '..UptoSaid' is the law's where the arguments, and the package variables that the reading takes, are together of bulk at most 1048576: NARROWER than '..Said'. Prove '..Said' where nothing that the law and all that it calls make is longer than what came in: it says more and counts as full. Else prove '..UptoSaid'. A law counts once. -/
mutual
def uptoBulk {H : Type} : DataW H → Nat
  | .lit (.string bytes) => bytes.length + 1
  | .lit _ => 1
  | .nil => 1
  | .ptr d => uptoBulk d + 1
  | .slice elems spare => uptoBulkAll elems + uptoBulkAll spare + 1
  | .agg parts => uptoBulkAll parts + 1
  | .iface _ d => uptoBulk d + 1
  | .map entries => uptoBulkEntries entries + 1
  | .held _ => 1
def uptoBulkAll {H : Type} : List (DataW H) → Nat
  | [] => 0
  | d :: r => uptoBulk d + uptoBulkAll r
def uptoBulkEntries {H : Type} : List (Lit × DataW H) → Nat
  | [] => 0
  | x :: r => uptoBulkEntry x + uptoBulkEntries r
def uptoBulkEntry {H : Type} : Lit × DataW H → Nat
  | (.string bytes, d) => bytes.length + uptoBulk d + 1
  | (_, d) => uptoBulk d + 1
 end
def uptoSmall : (H : Type) → List (DataW H) → Bool := fun _ ds => decide (uptoBulkAll ds ≤ 1048576)
def OpenSpec.upto (s : _root_.Go.ChangeSpec) : _root_.Go.OpenSpec := { _root_.Go.OpenSpec.ofChange s with cond := some uptoSmall }

/-- 'laws.FnExactGatesNeeded', WHERE WHAT IT READS IS OF BULK AT MOST 1048576: true; the input reads as it did. -/
def fnExactGatesNeededUptoRow : OpenClaim := { program := "ytoephhhofkmgjab", sum := "f1ffc0905c61426e13b1f63baf056aeb0a1f23f37a0e8a250631f131f366b09f", func := "loop.example/g01135/laws.FnExactGatesNeeded", spec := "fnExactGatesNeeded", unfollowed := true, recurses := true, apart := false, narrowed := true }
def FnExactGatesNeededUptoSaid : Prop := fnExactGatesNeededUptoRow.holds Try.pinned (OpenSpec.upto fnExactGatesNeededSpec)

/-- 'laws.FnExactFindPair', WHERE WHAT IT READS IS OF BULK AT MOST 1048576: true; the input reads as it did. -/
def fnExactFindPairUptoRow : OpenClaim := { program := "ytoephhhofkmgjab", sum := "f1ffc0905c61426e13b1f63baf056aeb0a1f23f37a0e8a250631f131f366b09f", func := "loop.example/g01135/laws.FnExactFindPair", spec := "fnExactFindPair", unfollowed := true, recurses := true, apart := false, narrowed := true }
def FnExactFindPairUptoSaid : Prop := fnExactFindPairUptoRow.holds Try.pinned (OpenSpec.upto fnExactFindPairSpec)

/-- 'laws.FnExactNetOfPair', WHERE WHAT IT READS IS OF BULK AT MOST 1048576: true; the input reads as it did. -/
def fnExactNetOfPairUptoRow : OpenClaim := { program := "ytoephhhofkmgjab", sum := "f1ffc0905c61426e13b1f63baf056aeb0a1f23f37a0e8a250631f131f366b09f", func := "loop.example/g01135/laws.FnExactNetOfPair", spec := "fnExactNetOfPair", unfollowed := true, recurses := true, apart := false, narrowed := true }
def FnExactNetOfPairUptoSaid : Prop := fnExactNetOfPairUptoRow.holds Try.pinned (OpenSpec.upto fnExactNetOfPairSpec)

/-- 'laws.FnExactSinglePlane', WHERE WHAT IT READS IS OF BULK AT MOST 1048576: true; the input reads as it did. -/
def fnExactSinglePlaneUptoRow : OpenClaim := { program := "ytoephhhofkmgjab", sum := "f1ffc0905c61426e13b1f63baf056aeb0a1f23f37a0e8a250631f131f366b09f", func := "loop.example/g01135/laws.FnExactSinglePlane", spec := "fnExactSinglePlane", unfollowed := true, recurses := true, apart := false, narrowed := true }
def FnExactSinglePlaneUptoSaid : Prop := fnExactSinglePlaneUptoRow.holds Try.pinned (OpenSpec.upto fnExactSinglePlaneSpec)

/-- 'laws.FnExactJoinSamples', WHERE WHAT IT READS IS OF BULK AT MOST 1048576: true; the input reads as it did. -/
def fnExactJoinSamplesUptoRow : OpenClaim := { program := "ytoephhhofkmgjab", sum := "f1ffc0905c61426e13b1f63baf056aeb0a1f23f37a0e8a250631f131f366b09f", func := "loop.example/g01135/laws.FnExactJoinSamples", spec := "fnExactJoinSamples", unfollowed := true, recurses := true, apart := false, narrowed := true }
def FnExactJoinSamplesUptoSaid : Prop := fnExactJoinSamplesUptoRow.holds Try.pinned (OpenSpec.upto fnExactJoinSamplesSpec)

end Rows
end Go.Proofs.Ytoephhhofkmgjab
