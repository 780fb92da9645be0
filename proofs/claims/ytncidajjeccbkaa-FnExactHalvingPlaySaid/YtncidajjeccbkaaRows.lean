/-
  No cell of these rows narrows 'for every input' (looked for: loops, veiled, ifaces, maps, wideKeys, modest, calm, conditions, laid).
  DERIVED. THE GIVEN ROWS OF THIS SEAT. 12 by the template 'for every input the law returns true; each argument reads behind the call as it read before'; 0 by the template 'total and deterministic' (their statements: YtncidajjeccbkaaTotals.lean).
  GIVEN WITH THE SEED: the statements are not yours to turn. If you find one false, say at which input.
  Laid BY PROGRAM, IN A SANDBOX (cutbox-rows.mjs): the forced cells as the released guide's own fill.sh prints them over the translation 8c72c7fb018dee1d… (all of the seat's roots in one cut). By AI agents, Wed Nov 11 2026. No macro, syntax, notation, axiom, sorry.
-/
import Derived.Test.YtncidajjeccbkaaChecked
import GoSem.Claim
import GoSem.ClaimJoined
import GoSem.ClaimMapViews
import Derived.JoinedTies
import Derived.KernelRfl
namespace Go.Proofs.Ytncidajjeccbkaa
/- THE CELL 'sum', in the pinned program and in every row, IS THE sha256 OF THE DUMP (.gsa) THAT YtncidajjeccbkaaProg.lean LOADS. Nothing in Lean hashes anything: it is a label: what it is worth is what the hold of that sum in a sandbox is worth. -/
noncomputable def Try.pinned : Pinned := { name := "ytncidajjeccbkaa", sum := "8c72c7fb018dee1d203fc5e6c2a1220921beb0dd2d0cc9ad5ec49d4717744df3", checked := Try.checked }
namespace Rows
def none {H : Type} : Left H := { results := [], args := [] }

/-- 'laws.FnExactIsClass': WHATEVER THE INPUT: true; the input reads as it did. -/
def fnExactIsClassSpec : ChangeSpec := { name := "fnExactIsClass", fn := fun _ => fun
  | [d] => { results := [.lit (.bool true)], args := [d] }
  | _ => none }
def fnExactIsClassRow : OpenClaim := { program := "ytncidajjeccbkaa", sum := "8c72c7fb018dee1d203fc5e6c2a1220921beb0dd2d0cc9ad5ec49d4717744df3", func := "loop.example/g01135/laws.FnExactIsClass", spec := "fnExactIsClass", unfollowed := true, recurses := true, apart := false }
def FnExactIsClassSaid : Prop := fnExactIsClassRow.holds Try.pinned (OpenSpec.ofChange fnExactIsClassSpec)

/-- ITS FALSE NEIGHBOUR: 'it returns false'. Refute it at one input. -/
def fnExactIsClassWrong : ChangeSpec := { name := "fnExactIsClass", fn := fun _ => fun
  | [d] => { results := [.lit (.bool false)], args := [d] }
  | _ => none }
def FnExactIsClassWrongFalsely : Prop := fnExactIsClassRow.holds Try.pinned (OpenSpec.ofChange fnExactIsClassWrong)

/-- 'laws.FnExactIntervalClass': WHATEVER THE INPUT: true; the input reads as it did. -/
def fnExactIntervalClassSpec : ChangeSpec := { name := "fnExactIntervalClass", fn := fun _ => fun
  | [d] => { results := [.lit (.bool true)], args := [d] }
  | _ => none }
def fnExactIntervalClassRow : OpenClaim := { program := "ytncidajjeccbkaa", sum := "8c72c7fb018dee1d203fc5e6c2a1220921beb0dd2d0cc9ad5ec49d4717744df3", func := "loop.example/g01135/laws.FnExactIntervalClass", spec := "fnExactIntervalClass", unfollowed := true, recurses := true, apart := false }
def FnExactIntervalClassSaid : Prop := fnExactIntervalClassRow.holds Try.pinned (OpenSpec.ofChange fnExactIntervalClassSpec)

/-- ITS FALSE NEIGHBOUR: 'it returns false'. Refute it at one input. -/
def fnExactIntervalClassWrong : ChangeSpec := { name := "fnExactIntervalClass", fn := fun _ => fun
  | [d] => { results := [.lit (.bool false)], args := [d] }
  | _ => none }
def FnExactIntervalClassWrongFalsely : Prop := fnExactIntervalClassRow.holds Try.pinned (OpenSpec.ofChange fnExactIntervalClassWrong)

/-- 'laws.FnExactTracesOf': WHATEVER THE INPUT: true; the input reads as it did. -/
def fnExactTracesOfSpec : ChangeSpec := { name := "fnExactTracesOf", fn := fun _ => fun
  | [d1, d2] => { results := [.lit (.bool true)], args := [d1, d2] }
  | _ => none }
def fnExactTracesOfRow : OpenClaim := { program := "ytncidajjeccbkaa", sum := "8c72c7fb018dee1d203fc5e6c2a1220921beb0dd2d0cc9ad5ec49d4717744df3", func := "loop.example/g01135/laws.FnExactTracesOf", spec := "fnExactTracesOf", unfollowed := true, recurses := true, apart := false }
def FnExactTracesOfSaid : Prop := fnExactTracesOfRow.holds Try.pinned (OpenSpec.ofChange fnExactTracesOfSpec)

/-- ITS FALSE NEIGHBOUR: 'it returns false'. Refute it at one input. -/
def fnExactTracesOfWrong : ChangeSpec := { name := "fnExactTracesOf", fn := fun _ => fun
  | [d1, d2] => { results := [.lit (.bool false)], args := [d1, d2] }
  | _ => none }
def FnExactTracesOfWrongFalsely : Prop := fnExactTracesOfRow.holds Try.pinned (OpenSpec.ofChange fnExactTracesOfWrong)

/-- 'laws.FnExactShattersSet': WHATEVER THE INPUT: true; the input reads as it did. -/
def fnExactShattersSetSpec : ChangeSpec := { name := "fnExactShattersSet", fn := fun _ => fun
  | [d1, d2] => { results := [.lit (.bool true)], args := [d1, d2] }
  | _ => none }
def fnExactShattersSetRow : OpenClaim := { program := "ytncidajjeccbkaa", sum := "8c72c7fb018dee1d203fc5e6c2a1220921beb0dd2d0cc9ad5ec49d4717744df3", func := "loop.example/g01135/laws.FnExactShattersSet", spec := "fnExactShattersSet", unfollowed := true, recurses := true, apart := false }
def FnExactShattersSetSaid : Prop := fnExactShattersSetRow.holds Try.pinned (OpenSpec.ofChange fnExactShattersSetSpec)

/-- ITS FALSE NEIGHBOUR: 'it returns false'. Refute it at one input. -/
def fnExactShattersSetWrong : ChangeSpec := { name := "fnExactShattersSet", fn := fun _ => fun
  | [d1, d2] => { results := [.lit (.bool false)], args := [d1, d2] }
  | _ => none }
def FnExactShattersSetWrongFalsely : Prop := fnExactShattersSetRow.holds Try.pinned (OpenSpec.ofChange fnExactShattersSetWrong)

/-- 'laws.FnExactShatteredSets': WHATEVER THE INPUT: true; the input reads as it did. -/
def fnExactShatteredSetsSpec : ChangeSpec := { name := "fnExactShatteredSets", fn := fun _ => fun
  | [d] => { results := [.lit (.bool true)], args := [d] }
  | _ => none }
def fnExactShatteredSetsRow : OpenClaim := { program := "ytncidajjeccbkaa", sum := "8c72c7fb018dee1d203fc5e6c2a1220921beb0dd2d0cc9ad5ec49d4717744df3", func := "loop.example/g01135/laws.FnExactShatteredSets", spec := "fnExactShatteredSets", unfollowed := true, recurses := true, apart := false }
def FnExactShatteredSetsSaid : Prop := fnExactShatteredSetsRow.holds Try.pinned (OpenSpec.ofChange fnExactShatteredSetsSpec)

/-- ITS FALSE NEIGHBOUR: 'it returns false'. Refute it at one input. -/
def fnExactShatteredSetsWrong : ChangeSpec := { name := "fnExactShatteredSets", fn := fun _ => fun
  | [d] => { results := [.lit (.bool false)], args := [d] }
  | _ => none }
def FnExactShatteredSetsWrongFalsely : Prop := fnExactShatteredSetsRow.holds Try.pinned (OpenSpec.ofChange fnExactShatteredSetsWrong)

/-- 'laws.FnExactVapnikNumber': WHATEVER THE INPUT: true; the input reads as it did. -/
def fnExactVapnikNumberSpec : ChangeSpec := { name := "fnExactVapnikNumber", fn := fun _ => fun
  | [d] => { results := [.lit (.bool true)], args := [d] }
  | _ => none }
def fnExactVapnikNumberRow : OpenClaim := { program := "ytncidajjeccbkaa", sum := "8c72c7fb018dee1d203fc5e6c2a1220921beb0dd2d0cc9ad5ec49d4717744df3", func := "loop.example/g01135/laws.FnExactVapnikNumber", spec := "fnExactVapnikNumber", unfollowed := true, recurses := true, apart := false }
def FnExactVapnikNumberSaid : Prop := fnExactVapnikNumberRow.holds Try.pinned (OpenSpec.ofChange fnExactVapnikNumberSpec)

/-- ITS FALSE NEIGHBOUR: 'it returns false'. Refute it at one input. -/
def fnExactVapnikNumberWrong : ChangeSpec := { name := "fnExactVapnikNumber", fn := fun _ => fun
  | [d] => { results := [.lit (.bool false)], args := [d] }
  | _ => none }
def FnExactVapnikNumberWrongFalsely : Prop := fnExactVapnikNumberRow.holds Try.pinned (OpenSpec.ofChange fnExactVapnikNumberWrong)

/-- 'laws.FnExactSauerBound': WHATEVER THE INPUT: true; the input reads as it did. -/
def fnExactSauerBoundSpec : ChangeSpec := { name := "fnExactSauerBound", fn := fun _ => fun
  | [d1, d2] => { results := [.lit (.bool true)], args := [d1, d2] }
  | _ => none }
def fnExactSauerBoundRow : OpenClaim := { program := "ytncidajjeccbkaa", sum := "8c72c7fb018dee1d203fc5e6c2a1220921beb0dd2d0cc9ad5ec49d4717744df3", func := "loop.example/g01135/laws.FnExactSauerBound", spec := "fnExactSauerBound", apart := false }
def FnExactSauerBoundSaid : Prop := fnExactSauerBoundRow.holds Try.pinned (OpenSpec.ofChange fnExactSauerBoundSpec)

/-- ITS FALSE NEIGHBOUR: 'it returns false'. Refute it at one input. -/
def fnExactSauerBoundWrong : ChangeSpec := { name := "fnExactSauerBound", fn := fun _ => fun
  | [d1, d2] => { results := [.lit (.bool false)], args := [d1, d2] }
  | _ => none }
def FnExactSauerBoundWrongFalsely : Prop := fnExactSauerBoundRow.holds Try.pinned (OpenSpec.ofChange fnExactSauerBoundWrong)

/-- 'laws.FnExactTeachingSet': WHATEVER THE INPUT: true; the input reads as it did. -/
def fnExactTeachingSetSpec : ChangeSpec := { name := "fnExactTeachingSet", fn := fun _ => fun
  | [d1, d2] => { results := [.lit (.bool true)], args := [d1, d2] }
  | _ => none }
def fnExactTeachingSetRow : OpenClaim := { program := "ytncidajjeccbkaa", sum := "8c72c7fb018dee1d203fc5e6c2a1220921beb0dd2d0cc9ad5ec49d4717744df3", func := "loop.example/g01135/laws.FnExactTeachingSet", spec := "fnExactTeachingSet", unfollowed := true, recurses := true, apart := false }
def FnExactTeachingSetSaid : Prop := fnExactTeachingSetRow.holds Try.pinned (OpenSpec.ofChange fnExactTeachingSetSpec)

/-- ITS FALSE NEIGHBOUR: 'it returns false'. Refute it at one input. -/
def fnExactTeachingSetWrong : ChangeSpec := { name := "fnExactTeachingSet", fn := fun _ => fun
  | [d1, d2] => { results := [.lit (.bool false)], args := [d1, d2] }
  | _ => none }
def FnExactTeachingSetWrongFalsely : Prop := fnExactTeachingSetRow.holds Try.pinned (OpenSpec.ofChange fnExactTeachingSetWrong)

/-- 'laws.FnExactTeachingNumber': WHATEVER THE INPUT: true; the input reads as it did. -/
def fnExactTeachingNumberSpec : ChangeSpec := { name := "fnExactTeachingNumber", fn := fun _ => fun
  | [d] => { results := [.lit (.bool true)], args := [d] }
  | _ => none }
def fnExactTeachingNumberRow : OpenClaim := { program := "ytncidajjeccbkaa", sum := "8c72c7fb018dee1d203fc5e6c2a1220921beb0dd2d0cc9ad5ec49d4717744df3", func := "loop.example/g01135/laws.FnExactTeachingNumber", spec := "fnExactTeachingNumber", unfollowed := true, recurses := true, apart := false }
def FnExactTeachingNumberSaid : Prop := fnExactTeachingNumberRow.holds Try.pinned (OpenSpec.ofChange fnExactTeachingNumberSpec)

/-- ITS FALSE NEIGHBOUR: 'it returns false'. Refute it at one input. -/
def fnExactTeachingNumberWrong : ChangeSpec := { name := "fnExactTeachingNumber", fn := fun _ => fun
  | [d] => { results := [.lit (.bool false)], args := [d] }
  | _ => none }
def FnExactTeachingNumberWrongFalsely : Prop := fnExactTeachingNumberRow.holds Try.pinned (OpenSpec.ofChange fnExactTeachingNumberWrong)

/-- 'laws.FnExactVersionOf': WHATEVER THE INPUT: true; the input reads as it did. -/
def fnExactVersionOfSpec : ChangeSpec := { name := "fnExactVersionOf", fn := fun _ => fun
  | [d1, d2, d3] => { results := [.lit (.bool true)], args := [d1, d2, d3] }
  | _ => none }
def fnExactVersionOfRow : OpenClaim := { program := "ytncidajjeccbkaa", sum := "8c72c7fb018dee1d203fc5e6c2a1220921beb0dd2d0cc9ad5ec49d4717744df3", func := "loop.example/g01135/laws.FnExactVersionOf", spec := "fnExactVersionOf", unfollowed := true, recurses := true, apart := false }
def FnExactVersionOfSaid : Prop := fnExactVersionOfRow.holds Try.pinned (OpenSpec.ofChange fnExactVersionOfSpec)

/-- ITS FALSE NEIGHBOUR: 'it returns false'. Refute it at one input. -/
def fnExactVersionOfWrong : ChangeSpec := { name := "fnExactVersionOf", fn := fun _ => fun
  | [d1, d2, d3] => { results := [.lit (.bool false)], args := [d1, d2, d3] }
  | _ => none }
def FnExactVersionOfWrongFalsely : Prop := fnExactVersionOfRow.holds Try.pinned (OpenSpec.ofChange fnExactVersionOfWrong)

/-- 'laws.FnExactHalvingPlay': WHATEVER THE INPUT: true; the input reads as it did. -/
def fnExactHalvingPlaySpec : ChangeSpec := { name := "fnExactHalvingPlay", fn := fun _ => fun
  | [d1, d2, d3] => { results := [.lit (.bool true)], args := [d1, d2, d3] }
  | _ => none }
def fnExactHalvingPlayRow : OpenClaim := { program := "ytncidajjeccbkaa", sum := "8c72c7fb018dee1d203fc5e6c2a1220921beb0dd2d0cc9ad5ec49d4717744df3", func := "loop.example/g01135/laws.FnExactHalvingPlay", spec := "fnExactHalvingPlay", unfollowed := true, recurses := true, apart := false }
def FnExactHalvingPlaySaid : Prop := fnExactHalvingPlayRow.holds Try.pinned (OpenSpec.ofChange fnExactHalvingPlaySpec)

/-- ITS FALSE NEIGHBOUR: 'it returns false'. Refute it at one input. -/
def fnExactHalvingPlayWrong : ChangeSpec := { name := "fnExactHalvingPlay", fn := fun _ => fun
  | [d1, d2, d3] => { results := [.lit (.bool false)], args := [d1, d2, d3] }
  | _ => none }
def FnExactHalvingPlayWrongFalsely : Prop := fnExactHalvingPlayRow.holds Try.pinned (OpenSpec.ofChange fnExactHalvingPlayWrong)

/-- 'laws.FnExactPartingBound': WHATEVER THE INPUT: true; the input reads as it did. -/
def fnExactPartingBoundSpec : ChangeSpec := { name := "fnExactPartingBound", fn := fun _ => fun
  | [d1, d2] => { results := [.lit (.bool true)], args := [d1, d2] }
  | _ => none }
def fnExactPartingBoundRow : OpenClaim := { program := "ytncidajjeccbkaa", sum := "8c72c7fb018dee1d203fc5e6c2a1220921beb0dd2d0cc9ad5ec49d4717744df3", func := "loop.example/g01135/laws.FnExactPartingBound", spec := "fnExactPartingBound", apart := false }
def FnExactPartingBoundSaid : Prop := fnExactPartingBoundRow.holds Try.pinned (OpenSpec.ofChange fnExactPartingBoundSpec)

/-- ITS FALSE NEIGHBOUR: 'it returns false'. Refute it at one input. -/
def fnExactPartingBoundWrong : ChangeSpec := { name := "fnExactPartingBound", fn := fun _ => fun
  | [d1, d2] => { results := [.lit (.bool false)], args := [d1, d2] }
  | _ => none }
def FnExactPartingBoundWrongFalsely : Prop := fnExactPartingBoundRow.holds Try.pinned (OpenSpec.ofChange fnExactPartingBoundWrong)

/- THE SECOND FORM. 'bulk': how many values and letters a reading holds, each counted each time it is reached (what is shared counts as often as it is met; a slice's spare places count too). A statement '..UptoSaid' is the law's where the arguments, and the package variables that the reading takes, are together of bulk at most 1048576: NARROWER than '..Said'. Prove '..Said' where nothing that the law and all that it calls make is longer than what came in: it says more and counts as full. Else prove '..UptoSaid'. A law counts once. -/
mutual
def uptoBulk {H : Type} : DataW H → Nat
  | .lit (.string bytes) => bytes.length + 1
  | .lit _ => 1
  | .nil => 1
  | .ptr d => uptoBulk d + 1
  | .slice elems spare => uptoBulkAll elems + uptoBulkAll spare + 1
  | .agg parts => uptoBulkAll parts + 1
  | .iface _ d => uptoBulk d + 1
  | .map entries => uptoBulkEntries entries + 1
  | .held _ => 1
def uptoBulkAll {H : Type} : List (DataW H) → Nat
  | [] => 0
  | d :: r => uptoBulk d + uptoBulkAll r
def uptoBulkEntries {H : Type} : List (Lit × DataW H) → Nat
  | [] => 0
  | x :: r => uptoBulkEntry x + uptoBulkEntries r
def uptoBulkEntry {H : Type} : Lit × DataW H → Nat
  | (.string bytes, d) => bytes.length + uptoBulk d + 1
  | (_, d) => uptoBulk d + 1
 end
def uptoSmall : (H : Type) → List (DataW H) → Bool := fun _ ds => decide (uptoBulkAll ds ≤ 1048576)
def OpenSpec.upto (s : _root_.Go.ChangeSpec) : _root_.Go.OpenSpec := { _root_.Go.OpenSpec.ofChange s with cond := some uptoSmall }

/-- 'laws.FnExactIsClass', WHERE WHAT IT READS IS OF BULK AT MOST 1048576: true; the input reads as it did. -/
def fnExactIsClassUptoRow : OpenClaim := { program := "ytncidajjeccbkaa", sum := "8c72c7fb018dee1d203fc5e6c2a1220921beb0dd2d0cc9ad5ec49d4717744df3", func := "loop.example/g01135/laws.FnExactIsClass", spec := "fnExactIsClass", unfollowed := true, recurses := true, apart := false, narrowed := true }
def FnExactIsClassUptoSaid : Prop := fnExactIsClassUptoRow.holds Try.pinned (OpenSpec.upto fnExactIsClassSpec)

/-- 'laws.FnExactIntervalClass', WHERE WHAT IT READS IS OF BULK AT MOST 1048576: true; the input reads as it did. -/
def fnExactIntervalClassUptoRow : OpenClaim := { program := "ytncidajjeccbkaa", sum := "8c72c7fb018dee1d203fc5e6c2a1220921beb0dd2d0cc9ad5ec49d4717744df3", func := "loop.example/g01135/laws.FnExactIntervalClass", spec := "fnExactIntervalClass", unfollowed := true, recurses := true, apart := false, narrowed := true }
def FnExactIntervalClassUptoSaid : Prop := fnExactIntervalClassUptoRow.holds Try.pinned (OpenSpec.upto fnExactIntervalClassSpec)

/-- 'laws.FnExactTracesOf', WHERE WHAT IT READS IS OF BULK AT MOST 1048576: true; the input reads as it did. -/
def fnExactTracesOfUptoRow : OpenClaim := { program := "ytncidajjeccbkaa", sum := "8c72c7fb018dee1d203fc5e6c2a1220921beb0dd2d0cc9ad5ec49d4717744df3", func := "loop.example/g01135/laws.FnExactTracesOf", spec := "fnExactTracesOf", unfollowed := true, recurses := true, apart := false, narrowed := true }
def FnExactTracesOfUptoSaid : Prop := fnExactTracesOfUptoRow.holds Try.pinned (OpenSpec.upto fnExactTracesOfSpec)

/-- 'laws.FnExactShattersSet', WHERE WHAT IT READS IS OF BULK AT MOST 1048576: true; the input reads as it did. -/
def fnExactShattersSetUptoRow : OpenClaim := { program := "ytncidajjeccbkaa", sum := "8c72c7fb018dee1d203fc5e6c2a1220921beb0dd2d0cc9ad5ec49d4717744df3", func := "loop.example/g01135/laws.FnExactShattersSet", spec := "fnExactShattersSet", unfollowed := true, recurses := true, apart := false, narrowed := true }
def FnExactShattersSetUptoSaid : Prop := fnExactShattersSetUptoRow.holds Try.pinned (OpenSpec.upto fnExactShattersSetSpec)

/-- 'laws.FnExactShatteredSets', WHERE WHAT IT READS IS OF BULK AT MOST 1048576: true; the input reads as it did. -/
def fnExactShatteredSetsUptoRow : OpenClaim := { program := "ytncidajjeccbkaa", sum := "8c72c7fb018dee1d203fc5e6c2a1220921beb0dd2d0cc9ad5ec49d4717744df3", func := "loop.example/g01135/laws.FnExactShatteredSets", spec := "fnExactShatteredSets", unfollowed := true, recurses := true, apart := false, narrowed := true }
def FnExactShatteredSetsUptoSaid : Prop := fnExactShatteredSetsUptoRow.holds Try.pinned (OpenSpec.upto fnExactShatteredSetsSpec)

/-- 'laws.FnExactVapnikNumber', WHERE WHAT IT READS IS OF BULK AT MOST 1048576: true; the input reads as it did. -/
def fnExactVapnikNumberUptoRow : OpenClaim := { program := "ytncidajjeccbkaa", sum := "8c72c7fb018dee1d203fc5e6c2a1220921beb0dd2d0cc9ad5ec49d4717744df3", func := "loop.example/g01135/laws.FnExactVapnikNumber", spec := "fnExactVapnikNumber", unfollowed := true, recurses := true, apart := false, narrowed := true }
def FnExactVapnikNumberUptoSaid : Prop := fnExactVapnikNumberUptoRow.holds Try.pinned (OpenSpec.upto fnExactVapnikNumberSpec)

/-- 'laws.FnExactSauerBound', WHERE WHAT IT READS IS OF BULK AT MOST 1048576: true; the input reads as it did. -/
def fnExactSauerBoundUptoRow : OpenClaim := { program := "ytncidajjeccbkaa", sum := "8c72c7fb018dee1d203fc5e6c2a1220921beb0dd2d0cc9ad5ec49d4717744df3", func := "loop.example/g01135/laws.FnExactSauerBound", spec := "fnExactSauerBound", apart := false, narrowed := true }
def FnExactSauerBoundUptoSaid : Prop := fnExactSauerBoundUptoRow.holds Try.pinned (OpenSpec.upto fnExactSauerBoundSpec)

/-- 'laws.FnExactTeachingSet', WHERE WHAT IT READS IS OF BULK AT MOST 1048576: true; the input reads as it did. -/
def fnExactTeachingSetUptoRow : OpenClaim := { program := "ytncidajjeccbkaa", sum := "8c72c7fb018dee1d203fc5e6c2a1220921beb0dd2d0cc9ad5ec49d4717744df3", func := "loop.example/g01135/laws.FnExactTeachingSet", spec := "fnExactTeachingSet", unfollowed := true, recurses := true, apart := false, narrowed := true }
def FnExactTeachingSetUptoSaid : Prop := fnExactTeachingSetUptoRow.holds Try.pinned (OpenSpec.upto fnExactTeachingSetSpec)

/-- 'laws.FnExactTeachingNumber', WHERE WHAT IT READS IS OF BULK AT MOST 1048576: true; the input reads as it did. -/
def fnExactTeachingNumberUptoRow : OpenClaim := { program := "ytncidajjeccbkaa", sum := "8c72c7fb018dee1d203fc5e6c2a1220921beb0dd2d0cc9ad5ec49d4717744df3", func := "loop.example/g01135/laws.FnExactTeachingNumber", spec := "fnExactTeachingNumber", unfollowed := true, recurses := true, apart := false, narrowed := true }
def FnExactTeachingNumberUptoSaid : Prop := fnExactTeachingNumberUptoRow.holds Try.pinned (OpenSpec.upto fnExactTeachingNumberSpec)

/-- 'laws.FnExactVersionOf', WHERE WHAT IT READS IS OF BULK AT MOST 1048576: true; the input reads as it did. -/
def fnExactVersionOfUptoRow : OpenClaim := { program := "ytncidajjeccbkaa", sum := "8c72c7fb018dee1d203fc5e6c2a1220921beb0dd2d0cc9ad5ec49d4717744df3", func := "loop.example/g01135/laws.FnExactVersionOf", spec := "fnExactVersionOf", unfollowed := true, recurses := true, apart := false, narrowed := true }
def FnExactVersionOfUptoSaid : Prop := fnExactVersionOfUptoRow.holds Try.pinned (OpenSpec.upto fnExactVersionOfSpec)

/-- 'laws.FnExactHalvingPlay', WHERE WHAT IT READS IS OF BULK AT MOST 1048576: true; the input reads as it did. -/
def fnExactHalvingPlayUptoRow : OpenClaim := { program := "ytncidajjeccbkaa", sum := "8c72c7fb018dee1d203fc5e6c2a1220921beb0dd2d0cc9ad5ec49d4717744df3", func := "loop.example/g01135/laws.FnExactHalvingPlay", spec := "fnExactHalvingPlay", unfollowed := true, recurses := true, apart := false, narrowed := true }
def FnExactHalvingPlayUptoSaid : Prop := fnExactHalvingPlayUptoRow.holds Try.pinned (OpenSpec.upto fnExactHalvingPlaySpec)

/-- 'laws.FnExactPartingBound', WHERE WHAT IT READS IS OF BULK AT MOST 1048576: true; the input reads as it did. -/
def fnExactPartingBoundUptoRow : OpenClaim := { program := "ytncidajjeccbkaa", sum := "8c72c7fb018dee1d203fc5e6c2a1220921beb0dd2d0cc9ad5ec49d4717744df3", func := "loop.example/g01135/laws.FnExactPartingBound", spec := "fnExactPartingBound", apart := false, narrowed := true }
def FnExactPartingBoundUptoSaid : Prop := fnExactPartingBoundUptoRow.holds Try.pinned (OpenSpec.upto fnExactPartingBoundSpec)

end Rows
end Go.Proofs.Ytncidajjeccbkaa
