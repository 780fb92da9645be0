/-
  No cell of these rows narrows 'for every input' (looked for: loops, veiled, ifaces, maps, wideKeys, modest, calm, conditions, laid).
  DERIVED. THE GIVEN ROWS OF THIS SEAT. 6 by the template 'for every input the law returns true; each argument reads behind the call as it read before'; 0 by the template 'total and deterministic' (their statements: YtkbcofgigfnfaabTotals.lean).
  GIVEN WITH THE SEED: the statements are not yours to turn. If you find one false, say at which input.
  Laid BY PROGRAM, IN A SANDBOX (cutbox-rows.mjs): the forced cells as the released guide's own fill.sh prints them over the translation 222fb59f53a2cd21… (all of the seat's roots in one cut). By AI agents, Wed Nov 11 2026. No macro, syntax, notation, axiom, sorry.
-/
import Derived.Test.YtkbcofgigfnfaabChecked
import GoSem.Claim
import GoSem.ClaimJoined
import GoSem.ClaimMapViews
import Derived.JoinedTies
import Derived.KernelRfl
namespace Go.Proofs.Ytkbcofgigfnfaab
/- THE CELL 'sum', in the pinned program and in every row, IS THE sha256 OF THE DUMP (.gsa) THAT YtkbcofgigfnfaabProg.lean LOADS. Nothing in Lean hashes anything: it is a label: what it is worth is what the hold of that sum in a sandbox is worth. -/
noncomputable def Try.pinned : Pinned := { name := "ytkbcofgigfnfaab", sum := "222fb59f53a2cd21f65df4b2790f963b7bb86f28c1a4b712fd4787ab602183e5", checked := Try.checked }
namespace Rows
def none {H : Type} : Left H := { results := [], args := [] }

/-- 'laws.FnExactCondensedPlaces': WHATEVER THE INPUT: true; the input reads as it did. -/
def fnExactCondensedPlacesSpec : ChangeSpec := { name := "fnExactCondensedPlaces", fn := fun _ => fun
  | [d] => { results := [.lit (.bool true)], args := [d] }
  | _ => none }
def fnExactCondensedPlacesRow : OpenClaim := { program := "ytkbcofgigfnfaab", sum := "222fb59f53a2cd21f65df4b2790f963b7bb86f28c1a4b712fd4787ab602183e5", func := "loop.example/g01135/laws.FnExactCondensedPlaces", spec := "fnExactCondensedPlaces", inPlace := ["slices.overlaps[int]"], unfollowed := true, recurses := true, plainKeys := false, apart := false }
def FnExactCondensedPlacesSaid : Prop := fnExactCondensedPlacesRow.holds Try.pinned (OpenSpec.ofChange fnExactCondensedPlacesSpec)

/-- ITS FALSE NEIGHBOUR: 'it returns false'. Refute it at one input. -/
def fnExactCondensedPlacesWrong : ChangeSpec := { name := "fnExactCondensedPlaces", fn := fun _ => fun
  | [d] => { results := [.lit (.bool false)], args := [d] }
  | _ => none }
def FnExactCondensedPlacesWrongFalsely : Prop := fnExactCondensedPlacesRow.holds Try.pinned (OpenSpec.ofChange fnExactCondensedPlacesWrong)

/-- 'laws.FnExactFewestPlaces': WHATEVER THE INPUT: true; the input reads as it did. -/
def fnExactFewestPlacesSpec : ChangeSpec := { name := "fnExactFewestPlaces", fn := fun _ => fun
  | [d] => { results := [.lit (.bool true)], args := [d] }
  | _ => none }
def fnExactFewestPlacesRow : OpenClaim := { program := "ytkbcofgigfnfaab", sum := "222fb59f53a2cd21f65df4b2790f963b7bb86f28c1a4b712fd4787ab602183e5", func := "loop.example/g01135/laws.FnExactFewestPlaces", spec := "fnExactFewestPlaces", unfollowed := true, recurses := true, plainKeys := false, apart := false }
def FnExactFewestPlacesSaid : Prop := fnExactFewestPlacesRow.holds Try.pinned (OpenSpec.ofChange fnExactFewestPlacesSpec)

/-- ITS FALSE NEIGHBOUR: 'it returns false'. Refute it at one input. -/
def fnExactFewestPlacesWrong : ChangeSpec := { name := "fnExactFewestPlaces", fn := fun _ => fun
  | [d] => { results := [.lit (.bool false)], args := [d] }
  | _ => none }
def FnExactFewestPlacesWrongFalsely : Prop := fnExactFewestPlacesRow.holds Try.pinned (OpenSpec.ofChange fnExactFewestPlacesWrong)

/-- 'laws.FnExactFirstConflict': WHATEVER THE INPUT: true; the input reads as it did. -/
def fnExactFirstConflictSpec : ChangeSpec := { name := "fnExactFirstConflict", fn := fun _ => fun
  | [d] => { results := [.lit (.bool true)], args := [d] }
  | _ => none }
def fnExactFirstConflictRow : OpenClaim := { program := "ytkbcofgigfnfaab", sum := "222fb59f53a2cd21f65df4b2790f963b7bb86f28c1a4b712fd4787ab602183e5", func := "loop.example/g01135/laws.FnExactFirstConflict", spec := "fnExactFirstConflict", unfollowed := true, recurses := true, plainKeys := false, apart := false }
def FnExactFirstConflictSaid : Prop := fnExactFirstConflictRow.holds Try.pinned (OpenSpec.ofChange fnExactFirstConflictSpec)

/-- ITS FALSE NEIGHBOUR: 'it returns false'. Refute it at one input. -/
def fnExactFirstConflictWrong : ChangeSpec := { name := "fnExactFirstConflict", fn := fun _ => fun
  | [d] => { results := [.lit (.bool false)], args := [d] }
  | _ => none }
def FnExactFirstConflictWrongFalsely : Prop := fnExactFirstConflictRow.holds Try.pinned (OpenSpec.ofChange fnExactFirstConflictWrong)

/-- 'laws.FnExactJoinNets': WHATEVER THE INPUT: true; the input reads as it did. -/
def fnExactJoinNetsSpec : ChangeSpec := { name := "fnExactJoinNets", fn := fun _ => fun
  | [d1, d2] => { results := [.lit (.bool true)], args := [d1, d2] }
  | _ => none }
def fnExactJoinNetsRow : OpenClaim := { program := "ytkbcofgigfnfaab", sum := "222fb59f53a2cd21f65df4b2790f963b7bb86f28c1a4b712fd4787ab602183e5", func := "loop.example/g01135/laws.FnExactJoinNets", spec := "fnExactJoinNets", unfollowed := true, recurses := true, plainKeys := false, apart := false }
def FnExactJoinNetsSaid : Prop := fnExactJoinNetsRow.holds Try.pinned (OpenSpec.ofChange fnExactJoinNetsSpec)

/-- ITS FALSE NEIGHBOUR: 'it returns false'. Refute it at one input. -/
def fnExactJoinNetsWrong : ChangeSpec := { name := "fnExactJoinNets", fn := fun _ => fun
  | [d1, d2] => { results := [.lit (.bool false)], args := [d1, d2] }
  | _ => none }
def FnExactJoinNetsWrongFalsely : Prop := fnExactJoinNetsRow.holds Try.pinned (OpenSpec.ofChange fnExactJoinNetsWrong)

/-- 'laws.FnPlanesOfPairs': WHATEVER THE INPUT: true; the input reads as it did. -/
def fnPlanesOfPairsSpec : ChangeSpec := { name := "fnPlanesOfPairs", fn := fun _ => fun
  | [d] => { results := [.lit (.bool true)], args := [d] }
  | _ => none }
def fnPlanesOfPairsRow : OpenClaim := { program := "ytkbcofgigfnfaab", sum := "222fb59f53a2cd21f65df4b2790f963b7bb86f28c1a4b712fd4787ab602183e5", func := "loop.example/g01135/laws.FnPlanesOfPairs", spec := "fnPlanesOfPairs", unfollowed := true, recurses := true, plainKeys := false, apart := false }
def FnPlanesOfPairsSaid : Prop := fnPlanesOfPairsRow.holds Try.pinned (OpenSpec.ofChange fnPlanesOfPairsSpec)

/-- ITS FALSE NEIGHBOUR: 'it returns false'. Refute it at one input. -/
def fnPlanesOfPairsWrong : ChangeSpec := { name := "fnPlanesOfPairs", fn := fun _ => fun
  | [d] => { results := [.lit (.bool false)], args := [d] }
  | _ => none }
def FnPlanesOfPairsWrongFalsely : Prop := fnPlanesOfPairsRow.holds Try.pinned (OpenSpec.ofChange fnPlanesOfPairsWrong)

/-- 'laws.FnKernels': WHATEVER THE INPUT: true; the input reads as it did. -/
def fnKernelsSpec : ChangeSpec := { name := "fnKernels", fn := fun _ => fun
  | [d] => { results := [.lit (.bool true)], args := [d] }
  | _ => none }
def fnKernelsRow : OpenClaim := { program := "ytkbcofgigfnfaab", sum := "222fb59f53a2cd21f65df4b2790f963b7bb86f28c1a4b712fd4787ab602183e5", func := "loop.example/g01135/laws.FnKernels", spec := "fnKernels", unfollowed := true, recurses := true, plainKeys := false, apart := false }
def FnKernelsSaid : Prop := fnKernelsRow.holds Try.pinned (OpenSpec.ofChange fnKernelsSpec)

/-- ITS FALSE NEIGHBOUR: 'it returns false'. Refute it at one input. -/
def fnKernelsWrong : ChangeSpec := { name := "fnKernels", fn := fun _ => fun
  | [d] => { results := [.lit (.bool false)], args := [d] }
  | _ => none }
def FnKernelsWrongFalsely : Prop := fnKernelsRow.holds Try.pinned (OpenSpec.ofChange fnKernelsWrong)

/- THE SECOND FORM. 'bulk': how many values and letters a reading holds, each counted each time it is reached (what is shared counts as often as it is met; a slice's spare places count too). A statement '..UptoSaid' is the law's where the arguments, and the package variables that the reading takes, are together of bulk at most 1048576: NARROWER than '..Said'. Prove '..Said' where nothing that the law and all that it calls make is longer than what came in: it says more and counts as full. Else prove '..UptoSaid'. A law counts once. -/
mutual
def uptoBulk {H : Type} : DataW H → Nat
  | .lit (.string bytes) => bytes.length + 1
  | .lit _ => 1
  | .nil => 1
  | .ptr d => uptoBulk d + 1
  | .slice elems spare => uptoBulkAll elems + uptoBulkAll spare + 1
  | .agg parts => uptoBulkAll parts + 1
  | .iface _ d => uptoBulk d + 1
  | .map entries => uptoBulkEntries entries + 1
  | .held _ => 1
def uptoBulkAll {H : Type} : List (DataW H) → Nat
  | [] => 0
  | d :: r => uptoBulk d + uptoBulkAll r
def uptoBulkEntries {H : Type} : List (Lit × DataW H) → Nat
  | [] => 0
  | x :: r => uptoBulkEntry x + uptoBulkEntries r
def uptoBulkEntry {H : Type} : Lit × DataW H → Nat
  | (.string bytes, d) => bytes.length + uptoBulk d + 1
  | (_, d) => uptoBulk d + 1
 end
def uptoSmall : (H : Type) → List (DataW H) → Bool := fun _ ds => decide (uptoBulkAll ds ≤ 1048576)
def OpenSpec.upto (s : _root_.Go.ChangeSpec) : _root_.Go.OpenSpec := { _root_.Go.OpenSpec.ofChange s with cond := some uptoSmall }

/-- 'laws.FnExactCondensedPlaces', WHERE WHAT IT READS IS OF BULK AT MOST 1048576: true; the input reads as it did. -/
def fnExactCondensedPlacesUptoRow : OpenClaim := { program := "ytkbcofgigfnfaab", sum := "222fb59f53a2cd21f65df4b2790f963b7bb86f28c1a4b712fd4787ab602183e5", func := "loop.example/g01135/laws.FnExactCondensedPlaces", spec := "fnExactCondensedPlaces", inPlace := ["slices.overlaps[int]"], unfollowed := true, recurses := true, plainKeys := false, apart := false, narrowed := true }
def FnExactCondensedPlacesUptoSaid : Prop := fnExactCondensedPlacesUptoRow.holds Try.pinned (OpenSpec.upto fnExactCondensedPlacesSpec)

/-- 'laws.FnExactFewestPlaces', WHERE WHAT IT READS IS OF BULK AT MOST 1048576: true; the input reads as it did. -/
def fnExactFewestPlacesUptoRow : OpenClaim := { program := "ytkbcofgigfnfaab", sum := "222fb59f53a2cd21f65df4b2790f963b7bb86f28c1a4b712fd4787ab602183e5", func := "loop.example/g01135/laws.FnExactFewestPlaces", spec := "fnExactFewestPlaces", unfollowed := true, recurses := true, plainKeys := false, apart := false, narrowed := true }
def FnExactFewestPlacesUptoSaid : Prop := fnExactFewestPlacesUptoRow.holds Try.pinned (OpenSpec.upto fnExactFewestPlacesSpec)

/-- 'laws.FnExactFirstConflict', WHERE WHAT IT READS IS OF BULK AT MOST 1048576: true; the input reads as it did. -/
def fnExactFirstConflictUptoRow : OpenClaim := { program := "ytkbcofgigfnfaab", sum := "222fb59f53a2cd21f65df4b2790f963b7bb86f28c1a4b712fd4787ab602183e5", func := "loop.example/g01135/laws.FnExactFirstConflict", spec := "fnExactFirstConflict", unfollowed := true, recurses := true, plainKeys := false, apart := false, narrowed := true }
def FnExactFirstConflictUptoSaid : Prop := fnExactFirstConflictUptoRow.holds Try.pinned (OpenSpec.upto fnExactFirstConflictSpec)

/-- 'laws.FnExactJoinNets', WHERE WHAT IT READS IS OF BULK AT MOST 1048576: true; the input reads as it did. -/
def fnExactJoinNetsUptoRow : OpenClaim := { program := "ytkbcofgigfnfaab", sum := "222fb59f53a2cd21f65df4b2790f963b7bb86f28c1a4b712fd4787ab602183e5", func := "loop.example/g01135/laws.FnExactJoinNets", spec := "fnExactJoinNets", unfollowed := true, recurses := true, plainKeys := false, apart := false, narrowed := true }
def FnExactJoinNetsUptoSaid : Prop := fnExactJoinNetsUptoRow.holds Try.pinned (OpenSpec.upto fnExactJoinNetsSpec)

/-- 'laws.FnPlanesOfPairs', WHERE WHAT IT READS IS OF BULK AT MOST 1048576: true; the input reads as it did. -/
def fnPlanesOfPairsUptoRow : OpenClaim := { program := "ytkbcofgigfnfaab", sum := "222fb59f53a2cd21f65df4b2790f963b7bb86f28c1a4b712fd4787ab602183e5", func := "loop.example/g01135/laws.FnPlanesOfPairs", spec := "fnPlanesOfPairs", unfollowed := true, recurses := true, plainKeys := false, apart := false, narrowed := true }
def FnPlanesOfPairsUptoSaid : Prop := fnPlanesOfPairsUptoRow.holds Try.pinned (OpenSpec.upto fnPlanesOfPairsSpec)

/-- 'laws.FnKernels', WHERE WHAT IT READS IS OF BULK AT MOST 1048576: true; the input reads as it did. -/
def fnKernelsUptoRow : OpenClaim := { program := "ytkbcofgigfnfaab", sum := "222fb59f53a2cd21f65df4b2790f963b7bb86f28c1a4b712fd4787ab602183e5", func := "loop.example/g01135/laws.FnKernels", spec := "fnKernels", unfollowed := true, recurses := true, plainKeys := false, apart := false, narrowed := true }
def FnKernelsUptoSaid : Prop := fnKernelsUptoRow.holds Try.pinned (OpenSpec.upto fnKernelsSpec)

end Rows
end Go.Proofs.Ytkbcofgigfnfaab
