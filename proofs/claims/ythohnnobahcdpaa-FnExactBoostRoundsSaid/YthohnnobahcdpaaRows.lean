/-
  No cell of these rows narrows 'for every input' (looked for: loops, veiled, ifaces, maps, wideKeys, modest, calm, conditions, laid).
  DERIVED. THE GIVEN ROWS OF THIS SEAT. 13 by the template 'for every input the law returns true; each argument reads behind the call as it read before'; 0 by the template 'total and deterministic' (their statements: YthohnnobahcdpaaTotals.lean).
  GIVEN WITH THE SEED: the statements are not yours to turn. If you find one false, say at which input.
  Laid BY PROGRAM, IN A SANDBOX (cutbox-rows.mjs): the forced cells as the released guide's own fill.sh prints them over the translation 17d1f5994399a94b… (all of the seat's roots in one cut). By AI agents, Wed Nov 11 2026. No macro, syntax, notation, axiom, sorry.
-/
import Derived.Test.YthohnnobahcdpaaChecked
import GoSem.Claim
import GoSem.ClaimJoined
import GoSem.ClaimMapViews
import Derived.JoinedTies
import Derived.KernelRfl
namespace Go.Proofs.Ythohnnobahcdpaa
/- THE CELL 'sum', in the pinned program and in every row, IS THE sha256 OF THE DUMP (.gsa) THAT YthohnnobahcdpaaProg.lean LOADS. Nothing in Lean hashes anything: it is a label: what it is worth is what the hold of that sum in a sandbox is worth. -/
noncomputable def Try.pinned : Pinned := { name := "ythohnnobahcdpaa", sum := "17d1f5994399a94be0992697fb1180e600f2d93c8a6ccdb8a1083c91da82e244", checked := Try.checked }
namespace Rows
def none {H : Type} : Left H := { results := [], args := [] }

/-- 'laws.FnExactIsStump': WHATEVER THE INPUT: true; the input reads as it did. -/
def fnExactIsStumpSpec : ChangeSpec := { name := "fnExactIsStump", fn := fun _ => fun
  | [d] => { results := [.lit (.bool true)], args := [d] }
  | _ => none }
def fnExactIsStumpRow : OpenClaim := { program := "ythohnnobahcdpaa", sum := "17d1f5994399a94be0992697fb1180e600f2d93c8a6ccdb8a1083c91da82e244", func := "loop.example/g01135/laws.FnExactIsStump", spec := "fnExactIsStump", apart := false }
def FnExactIsStumpSaid : Prop := fnExactIsStumpRow.holds Try.pinned (OpenSpec.ofChange fnExactIsStumpSpec)

/-- ITS FALSE NEIGHBOUR: 'it returns false'. Refute it at one input. -/
def fnExactIsStumpWrong : ChangeSpec := { name := "fnExactIsStump", fn := fun _ => fun
  | [d] => { results := [.lit (.bool false)], args := [d] }
  | _ => none }
def FnExactIsStumpWrongFalsely : Prop := fnExactIsStumpRow.holds Try.pinned (OpenSpec.ofChange fnExactIsStumpWrong)

/-- 'laws.FnExactStumpsOf': WHATEVER THE INPUT: true; the input reads as it did. -/
def fnExactStumpsOfSpec : ChangeSpec := { name := "fnExactStumpsOf", fn := fun _ => fun
  | [d] => { results := [.lit (.bool true)], args := [d] }
  | _ => none }
def fnExactStumpsOfRow : OpenClaim := { program := "ythohnnobahcdpaa", sum := "17d1f5994399a94be0992697fb1180e600f2d93c8a6ccdb8a1083c91da82e244", func := "loop.example/g01135/laws.FnExactStumpsOf", spec := "fnExactStumpsOf", recurses := true, apart := false }
def FnExactStumpsOfSaid : Prop := fnExactStumpsOfRow.holds Try.pinned (OpenSpec.ofChange fnExactStumpsOfSpec)

/-- ITS FALSE NEIGHBOUR: 'it returns false'. Refute it at one input. -/
def fnExactStumpsOfWrong : ChangeSpec := { name := "fnExactStumpsOf", fn := fun _ => fun
  | [d] => { results := [.lit (.bool false)], args := [d] }
  | _ => none }
def FnExactStumpsOfWrongFalsely : Prop := fnExactStumpsOfRow.holds Try.pinned (OpenSpec.ofChange fnExactStumpsOfWrong)

/-- 'laws.FnExactWeightedMistakes': WHATEVER THE INPUT: true; the input reads as it did. -/
def fnExactWeightedMistakesSpec : ChangeSpec := { name := "fnExactWeightedMistakes", fn := fun _ => fun
  | [d1, d2, d3] => { results := [.lit (.bool true)], args := [d1, d2, d3] }
  | _ => none }
def fnExactWeightedMistakesRow : OpenClaim := { program := "ythohnnobahcdpaa", sum := "17d1f5994399a94be0992697fb1180e600f2d93c8a6ccdb8a1083c91da82e244", func := "loop.example/g01135/laws.FnExactWeightedMistakes", spec := "fnExactWeightedMistakes", unfollowed := true, recurses := true, apart := false }
def FnExactWeightedMistakesSaid : Prop := fnExactWeightedMistakesRow.holds Try.pinned (OpenSpec.ofChange fnExactWeightedMistakesSpec)

/-- ITS FALSE NEIGHBOUR: 'it returns false'. Refute it at one input. -/
def fnExactWeightedMistakesWrong : ChangeSpec := { name := "fnExactWeightedMistakes", fn := fun _ => fun
  | [d1, d2, d3] => { results := [.lit (.bool false)], args := [d1, d2, d3] }
  | _ => none }
def FnExactWeightedMistakesWrongFalsely : Prop := fnExactWeightedMistakesRow.holds Try.pinned (OpenSpec.ofChange fnExactWeightedMistakesWrong)

/-- 'laws.FnExactBestStump': WHATEVER THE INPUT: true; the input reads as it did. -/
def fnExactBestStumpSpec : ChangeSpec := { name := "fnExactBestStump", fn := fun _ => fun
  | [d1, d2] => { results := [.lit (.bool true)], args := [d1, d2] }
  | _ => none }
def fnExactBestStumpRow : OpenClaim := { program := "ythohnnobahcdpaa", sum := "17d1f5994399a94be0992697fb1180e600f2d93c8a6ccdb8a1083c91da82e244", func := "loop.example/g01135/laws.FnExactBestStump", spec := "fnExactBestStump", unfollowed := true, recurses := true, apart := false }
def FnExactBestStumpSaid : Prop := fnExactBestStumpRow.holds Try.pinned (OpenSpec.ofChange fnExactBestStumpSpec)

/-- ITS FALSE NEIGHBOUR: 'it returns false'. Refute it at one input. -/
def fnExactBestStumpWrong : ChangeSpec := { name := "fnExactBestStump", fn := fun _ => fun
  | [d1, d2] => { results := [.lit (.bool false)], args := [d1, d2] }
  | _ => none }
def FnExactBestStumpWrongFalsely : Prop := fnExactBestStumpRow.holds Try.pinned (OpenSpec.ofChange fnExactBestStumpWrong)

/-- 'laws.FnExactBoostRounds': WHATEVER THE INPUT: true; the input reads as it did. -/
def fnExactBoostRoundsSpec : ChangeSpec := { name := "fnExactBoostRounds", fn := fun _ => fun
  | [d1, d2] => { results := [.lit (.bool true)], args := [d1, d2] }
  | _ => none }
def fnExactBoostRoundsRow : OpenClaim := { program := "ythohnnobahcdpaa", sum := "17d1f5994399a94be0992697fb1180e600f2d93c8a6ccdb8a1083c91da82e244", func := "loop.example/g01135/laws.FnExactBoostRounds", spec := "fnExactBoostRounds", unfollowed := true, recurses := true, apart := false }
def FnExactBoostRoundsSaid : Prop := fnExactBoostRoundsRow.holds Try.pinned (OpenSpec.ofChange fnExactBoostRoundsSpec)

/-- ITS FALSE NEIGHBOUR: 'it returns false'. Refute it at one input. -/
def fnExactBoostRoundsWrong : ChangeSpec := { name := "fnExactBoostRounds", fn := fun _ => fun
  | [d1, d2] => { results := [.lit (.bool false)], args := [d1, d2] }
  | _ => none }
def FnExactBoostRoundsWrongFalsely : Prop := fnExactBoostRoundsRow.holds Try.pinned (OpenSpec.ofChange fnExactBoostRoundsWrong)

/-- 'laws.FnExactBoostBound': WHATEVER THE INPUT: true; the input reads as it did. -/
def fnExactBoostBoundSpec : ChangeSpec := { name := "fnExactBoostBound", fn := fun _ => fun
  | [d1, d2] => { results := [.lit (.bool true)], args := [d1, d2] }
  | _ => none }
def fnExactBoostBoundRow : OpenClaim := { program := "ythohnnobahcdpaa", sum := "17d1f5994399a94be0992697fb1180e600f2d93c8a6ccdb8a1083c91da82e244", func := "loop.example/g01135/laws.FnExactBoostBound", spec := "fnExactBoostBound", unfollowed := true, recurses := true, apart := false }
def FnExactBoostBoundSaid : Prop := fnExactBoostBoundRow.holds Try.pinned (OpenSpec.ofChange fnExactBoostBoundSpec)

/-- ITS FALSE NEIGHBOUR: 'it returns false'. Refute it at one input. -/
def fnExactBoostBoundWrong : ChangeSpec := { name := "fnExactBoostBound", fn := fun _ => fun
  | [d1, d2] => { results := [.lit (.bool false)], args := [d1, d2] }
  | _ => none }
def FnExactBoostBoundWrongFalsely : Prop := fnExactBoostBoundRow.holds Try.pinned (OpenSpec.ofChange fnExactBoostBoundWrong)

/-- 'laws.FnExactJurySide': WHATEVER THE INPUT: true; the input reads as it did. -/
def fnExactJurySideSpec : ChangeSpec := { name := "fnExactJurySide", fn := fun _ => fun
  | [d1, d2] => { results := [.lit (.bool true)], args := [d1, d2] }
  | _ => none }
def fnExactJurySideRow : OpenClaim := { program := "ythohnnobahcdpaa", sum := "17d1f5994399a94be0992697fb1180e600f2d93c8a6ccdb8a1083c91da82e244", func := "loop.example/g01135/laws.FnExactJurySide", spec := "fnExactJurySide", unfollowed := true, recurses := true, apart := false }
def FnExactJurySideSaid : Prop := fnExactJurySideRow.holds Try.pinned (OpenSpec.ofChange fnExactJurySideSpec)

/-- ITS FALSE NEIGHBOUR: 'it returns false'. Refute it at one input. -/
def fnExactJurySideWrong : ChangeSpec := { name := "fnExactJurySide", fn := fun _ => fun
  | [d1, d2] => { results := [.lit (.bool false)], args := [d1, d2] }
  | _ => none }
def FnExactJurySideWrongFalsely : Prop := fnExactJurySideRow.holds Try.pinned (OpenSpec.ofChange fnExactJurySideWrong)

/-- 'laws.FnExactJuryMistakes': WHATEVER THE INPUT: true; the input reads as it did. -/
def fnExactJuryMistakesSpec : ChangeSpec := { name := "fnExactJuryMistakes", fn := fun _ => fun
  | [d1, d2] => { results := [.lit (.bool true)], args := [d1, d2] }
  | _ => none }
def fnExactJuryMistakesRow : OpenClaim := { program := "ythohnnobahcdpaa", sum := "17d1f5994399a94be0992697fb1180e600f2d93c8a6ccdb8a1083c91da82e244", func := "loop.example/g01135/laws.FnExactJuryMistakes", spec := "fnExactJuryMistakes", unfollowed := true, recurses := true, apart := false }
def FnExactJuryMistakesSaid : Prop := fnExactJuryMistakesRow.holds Try.pinned (OpenSpec.ofChange fnExactJuryMistakesSpec)

/-- ITS FALSE NEIGHBOUR: 'it returns false'. Refute it at one input. -/
def fnExactJuryMistakesWrong : ChangeSpec := { name := "fnExactJuryMistakes", fn := fun _ => fun
  | [d1, d2] => { results := [.lit (.bool false)], args := [d1, d2] }
  | _ => none }
def FnExactJuryMistakesWrongFalsely : Prop := fnExactJuryMistakesRow.holds Try.pinned (OpenSpec.ofChange fnExactJuryMistakesWrong)

/-- 'laws.FnExactFittingJury': WHATEVER THE INPUT: true; the input reads as it did. -/
def fnExactFittingJurySpec : ChangeSpec := { name := "fnExactFittingJury", fn := fun _ => fun
  | [d1, d2] => { results := [.lit (.bool true)], args := [d1, d2] }
  | _ => none }
def fnExactFittingJuryRow : OpenClaim := { program := "ythohnnobahcdpaa", sum := "17d1f5994399a94be0992697fb1180e600f2d93c8a6ccdb8a1083c91da82e244", func := "loop.example/g01135/laws.FnExactFittingJury", spec := "fnExactFittingJury", recurses := true, apart := false }
def FnExactFittingJurySaid : Prop := fnExactFittingJuryRow.holds Try.pinned (OpenSpec.ofChange fnExactFittingJurySpec)

/-- ITS FALSE NEIGHBOUR: 'it returns false'. Refute it at one input. -/
def fnExactFittingJuryWrong : ChangeSpec := { name := "fnExactFittingJury", fn := fun _ => fun
  | [d1, d2] => { results := [.lit (.bool false)], args := [d1, d2] }
  | _ => none }
def FnExactFittingJuryWrongFalsely : Prop := fnExactFittingJuryRow.holds Try.pinned (OpenSpec.ofChange fnExactFittingJuryWrong)

/-- 'laws.FnExactSidesSample': WHATEVER THE INPUT: true; the input reads as it did. -/
def fnExactSidesSampleSpec : ChangeSpec := { name := "fnExactSidesSample", fn := fun _ => fun
  | [d1, d2] => { results := [.lit (.bool true)], args := [d1, d2] }
  | _ => none }
def fnExactSidesSampleRow : OpenClaim := { program := "ythohnnobahcdpaa", sum := "17d1f5994399a94be0992697fb1180e600f2d93c8a6ccdb8a1083c91da82e244", func := "loop.example/g01135/laws.FnExactSidesSample", spec := "fnExactSidesSample", unfollowed := true, recurses := true, apart := false }
def FnExactSidesSampleSaid : Prop := fnExactSidesSampleRow.holds Try.pinned (OpenSpec.ofChange fnExactSidesSampleSpec)

/-- ITS FALSE NEIGHBOUR: 'it returns false'. Refute it at one input. -/
def fnExactSidesSampleWrong : ChangeSpec := { name := "fnExactSidesSample", fn := fun _ => fun
  | [d1, d2] => { results := [.lit (.bool false)], args := [d1, d2] }
  | _ => none }
def FnExactSidesSampleWrongFalsely : Prop := fnExactSidesSampleRow.holds Try.pinned (OpenSpec.ofChange fnExactSidesSampleWrong)

/-- 'laws.FnExactChoiceSide': WHATEVER THE INPUT: true; the input reads as it did. -/
def fnExactChoiceSideSpec : ChangeSpec := { name := "fnExactChoiceSide", fn := fun _ => fun
  | [d1, d2, d3, d4] => { results := [.lit (.bool true)], args := [d1, d2, d3, d4] }
  | _ => none }
def fnExactChoiceSideRow : OpenClaim := { program := "ythohnnobahcdpaa", sum := "17d1f5994399a94be0992697fb1180e600f2d93c8a6ccdb8a1083c91da82e244", func := "loop.example/g01135/laws.FnExactChoiceSide", spec := "fnExactChoiceSide", unfollowed := true, recurses := true, apart := false }
def FnExactChoiceSideSaid : Prop := fnExactChoiceSideRow.holds Try.pinned (OpenSpec.ofChange fnExactChoiceSideSpec)

/-- ITS FALSE NEIGHBOUR: 'it returns false'. Refute it at one input. -/
def fnExactChoiceSideWrong : ChangeSpec := { name := "fnExactChoiceSide", fn := fun _ => fun
  | [d1, d2, d3, d4] => { results := [.lit (.bool false)], args := [d1, d2, d3, d4] }
  | _ => none }
def FnExactChoiceSideWrongFalsely : Prop := fnExactChoiceSideRow.holds Try.pinned (OpenSpec.ofChange fnExactChoiceSideWrong)

/-- 'laws.FnExactChoiceMistakes': WHATEVER THE INPUT: true; the input reads as it did. -/
def fnExactChoiceMistakesSpec : ChangeSpec := { name := "fnExactChoiceMistakes", fn := fun _ => fun
  | [d1, d2, d3, d4] => { results := [.lit (.bool true)], args := [d1, d2, d3, d4] }
  | _ => none }
def fnExactChoiceMistakesRow : OpenClaim := { program := "ythohnnobahcdpaa", sum := "17d1f5994399a94be0992697fb1180e600f2d93c8a6ccdb8a1083c91da82e244", func := "loop.example/g01135/laws.FnExactChoiceMistakes", spec := "fnExactChoiceMistakes", unfollowed := true, recurses := true, apart := false }
def FnExactChoiceMistakesSaid : Prop := fnExactChoiceMistakesRow.holds Try.pinned (OpenSpec.ofChange fnExactChoiceMistakesSpec)

/-- ITS FALSE NEIGHBOUR: 'it returns false'. Refute it at one input. -/
def fnExactChoiceMistakesWrong : ChangeSpec := { name := "fnExactChoiceMistakes", fn := fun _ => fun
  | [d1, d2, d3, d4] => { results := [.lit (.bool false)], args := [d1, d2, d3, d4] }
  | _ => none }
def FnExactChoiceMistakesWrongFalsely : Prop := fnExactChoiceMistakesRow.holds Try.pinned (OpenSpec.ofChange fnExactChoiceMistakesWrong)

/-- 'laws.FnExactUniformHefts': WHATEVER THE INPUT: true; the input reads as it did. -/
def fnExactUniformHeftsSpec : ChangeSpec := { name := "fnExactUniformHefts", fn := fun _ => fun
  | [d1, d2] => { results := [.lit (.bool true)], args := [d1, d2] }
  | _ => none }
def fnExactUniformHeftsRow : OpenClaim := { program := "ythohnnobahcdpaa", sum := "17d1f5994399a94be0992697fb1180e600f2d93c8a6ccdb8a1083c91da82e244", func := "loop.example/g01135/laws.FnExactUniformHefts", spec := "fnExactUniformHefts", apart := false }
def FnExactUniformHeftsSaid : Prop := fnExactUniformHeftsRow.holds Try.pinned (OpenSpec.ofChange fnExactUniformHeftsSpec)

/-- ITS FALSE NEIGHBOUR: 'it returns false'. Refute it at one input. -/
def fnExactUniformHeftsWrong : ChangeSpec := { name := "fnExactUniformHefts", fn := fun _ => fun
  | [d1, d2] => { results := [.lit (.bool false)], args := [d1, d2] }
  | _ => none }
def FnExactUniformHeftsWrongFalsely : Prop := fnExactUniformHeftsRow.holds Try.pinned (OpenSpec.ofChange fnExactUniformHeftsWrong)

/- THE SECOND FORM. 'bulk': how many values and letters a reading holds, each counted each time it is reached (what is shared counts as often as it is met; a slice's spare places count too). A statement '..UptoSaid' is the law's where the arguments, and the package variables that the reading takes, are together of bulk at most 1048576: NARROWER than '..Said'. Prove '..Said' where nothing that the law and all that it calls make is longer than what came in: it says more and counts as full. Else prove '..UptoSaid'. A law counts once. -/
mutual
def uptoBulk {H : Type} : DataW H → Nat
  | .lit (.string bytes) => bytes.length + 1
  | .lit _ => 1
  | .nil => 1
  | .ptr d => uptoBulk d + 1
  | .slice elems spare => uptoBulkAll elems + uptoBulkAll spare + 1
  | .agg parts => uptoBulkAll parts + 1
  | .iface _ d => uptoBulk d + 1
  | .map entries => uptoBulkEntries entries + 1
  | .held _ => 1
def uptoBulkAll {H : Type} : List (DataW H) → Nat
  | [] => 0
  | d :: r => uptoBulk d + uptoBulkAll r
def uptoBulkEntries {H : Type} : List (Lit × DataW H) → Nat
  | [] => 0
  | x :: r => uptoBulkEntry x + uptoBulkEntries r
def uptoBulkEntry {H : Type} : Lit × DataW H → Nat
  | (.string bytes, d) => bytes.length + uptoBulk d + 1
  | (_, d) => uptoBulk d + 1
 end
def uptoSmall : (H : Type) → List (DataW H) → Bool := fun _ ds => decide (uptoBulkAll ds ≤ 1048576)
def OpenSpec.upto (s : _root_.Go.ChangeSpec) : _root_.Go.OpenSpec := { _root_.Go.OpenSpec.ofChange s with cond := some uptoSmall }

/-- 'laws.FnExactIsStump', WHERE WHAT IT READS IS OF BULK AT MOST 1048576: true; the input reads as it did. -/
def fnExactIsStumpUptoRow : OpenClaim := { program := "ythohnnobahcdpaa", sum := "17d1f5994399a94be0992697fb1180e600f2d93c8a6ccdb8a1083c91da82e244", func := "loop.example/g01135/laws.FnExactIsStump", spec := "fnExactIsStump", apart := false, narrowed := true }
def FnExactIsStumpUptoSaid : Prop := fnExactIsStumpUptoRow.holds Try.pinned (OpenSpec.upto fnExactIsStumpSpec)

/-- 'laws.FnExactStumpsOf', WHERE WHAT IT READS IS OF BULK AT MOST 1048576: true; the input reads as it did. -/
def fnExactStumpsOfUptoRow : OpenClaim := { program := "ythohnnobahcdpaa", sum := "17d1f5994399a94be0992697fb1180e600f2d93c8a6ccdb8a1083c91da82e244", func := "loop.example/g01135/laws.FnExactStumpsOf", spec := "fnExactStumpsOf", recurses := true, apart := false, narrowed := true }
def FnExactStumpsOfUptoSaid : Prop := fnExactStumpsOfUptoRow.holds Try.pinned (OpenSpec.upto fnExactStumpsOfSpec)

/-- 'laws.FnExactWeightedMistakes', WHERE WHAT IT READS IS OF BULK AT MOST 1048576: true; the input reads as it did. -/
def fnExactWeightedMistakesUptoRow : OpenClaim := { program := "ythohnnobahcdpaa", sum := "17d1f5994399a94be0992697fb1180e600f2d93c8a6ccdb8a1083c91da82e244", func := "loop.example/g01135/laws.FnExactWeightedMistakes", spec := "fnExactWeightedMistakes", unfollowed := true, recurses := true, apart := false, narrowed := true }
def FnExactWeightedMistakesUptoSaid : Prop := fnExactWeightedMistakesUptoRow.holds Try.pinned (OpenSpec.upto fnExactWeightedMistakesSpec)

/-- 'laws.FnExactBestStump', WHERE WHAT IT READS IS OF BULK AT MOST 1048576: true; the input reads as it did. -/
def fnExactBestStumpUptoRow : OpenClaim := { program := "ythohnnobahcdpaa", sum := "17d1f5994399a94be0992697fb1180e600f2d93c8a6ccdb8a1083c91da82e244", func := "loop.example/g01135/laws.FnExactBestStump", spec := "fnExactBestStump", unfollowed := true, recurses := true, apart := false, narrowed := true }
def FnExactBestStumpUptoSaid : Prop := fnExactBestStumpUptoRow.holds Try.pinned (OpenSpec.upto fnExactBestStumpSpec)

/-- 'laws.FnExactBoostRounds', WHERE WHAT IT READS IS OF BULK AT MOST 1048576: true; the input reads as it did. -/
def fnExactBoostRoundsUptoRow : OpenClaim := { program := "ythohnnobahcdpaa", sum := "17d1f5994399a94be0992697fb1180e600f2d93c8a6ccdb8a1083c91da82e244", func := "loop.example/g01135/laws.FnExactBoostRounds", spec := "fnExactBoostRounds", unfollowed := true, recurses := true, apart := false, narrowed := true }
def FnExactBoostRoundsUptoSaid : Prop := fnExactBoostRoundsUptoRow.holds Try.pinned (OpenSpec.upto fnExactBoostRoundsSpec)

/-- 'laws.FnExactBoostBound', WHERE WHAT IT READS IS OF BULK AT MOST 1048576: true; the input reads as it did. -/
def fnExactBoostBoundUptoRow : OpenClaim := { program := "ythohnnobahcdpaa", sum := "17d1f5994399a94be0992697fb1180e600f2d93c8a6ccdb8a1083c91da82e244", func := "loop.example/g01135/laws.FnExactBoostBound", spec := "fnExactBoostBound", unfollowed := true, recurses := true, apart := false, narrowed := true }
def FnExactBoostBoundUptoSaid : Prop := fnExactBoostBoundUptoRow.holds Try.pinned (OpenSpec.upto fnExactBoostBoundSpec)

/-- 'laws.FnExactJurySide', WHERE WHAT IT READS IS OF BULK AT MOST 1048576: true; the input reads as it did. -/
def fnExactJurySideUptoRow : OpenClaim := { program := "ythohnnobahcdpaa", sum := "17d1f5994399a94be0992697fb1180e600f2d93c8a6ccdb8a1083c91da82e244", func := "loop.example/g01135/laws.FnExactJurySide", spec := "fnExactJurySide", unfollowed := true, recurses := true, apart := false, narrowed := true }
def FnExactJurySideUptoSaid : Prop := fnExactJurySideUptoRow.holds Try.pinned (OpenSpec.upto fnExactJurySideSpec)

/-- 'laws.FnExactJuryMistakes', WHERE WHAT IT READS IS OF BULK AT MOST 1048576: true; the input reads as it did. -/
def fnExactJuryMistakesUptoRow : OpenClaim := { program := "ythohnnobahcdpaa", sum := "17d1f5994399a94be0992697fb1180e600f2d93c8a6ccdb8a1083c91da82e244", func := "loop.example/g01135/laws.FnExactJuryMistakes", spec := "fnExactJuryMistakes", unfollowed := true, recurses := true, apart := false, narrowed := true }
def FnExactJuryMistakesUptoSaid : Prop := fnExactJuryMistakesUptoRow.holds Try.pinned (OpenSpec.upto fnExactJuryMistakesSpec)

/-- 'laws.FnExactFittingJury', WHERE WHAT IT READS IS OF BULK AT MOST 1048576: true; the input reads as it did. -/
def fnExactFittingJuryUptoRow : OpenClaim := { program := "ythohnnobahcdpaa", sum := "17d1f5994399a94be0992697fb1180e600f2d93c8a6ccdb8a1083c91da82e244", func := "loop.example/g01135/laws.FnExactFittingJury", spec := "fnExactFittingJury", recurses := true, apart := false, narrowed := true }
def FnExactFittingJuryUptoSaid : Prop := fnExactFittingJuryUptoRow.holds Try.pinned (OpenSpec.upto fnExactFittingJurySpec)

/-- 'laws.FnExactSidesSample', WHERE WHAT IT READS IS OF BULK AT MOST 1048576: true; the input reads as it did. -/
def fnExactSidesSampleUptoRow : OpenClaim := { program := "ythohnnobahcdpaa", sum := "17d1f5994399a94be0992697fb1180e600f2d93c8a6ccdb8a1083c91da82e244", func := "loop.example/g01135/laws.FnExactSidesSample", spec := "fnExactSidesSample", unfollowed := true, recurses := true, apart := false, narrowed := true }
def FnExactSidesSampleUptoSaid : Prop := fnExactSidesSampleUptoRow.holds Try.pinned (OpenSpec.upto fnExactSidesSampleSpec)

/-- 'laws.FnExactChoiceSide', WHERE WHAT IT READS IS OF BULK AT MOST 1048576: true; the input reads as it did. -/
def fnExactChoiceSideUptoRow : OpenClaim := { program := "ythohnnobahcdpaa", sum := "17d1f5994399a94be0992697fb1180e600f2d93c8a6ccdb8a1083c91da82e244", func := "loop.example/g01135/laws.FnExactChoiceSide", spec := "fnExactChoiceSide", unfollowed := true, recurses := true, apart := false, narrowed := true }
def FnExactChoiceSideUptoSaid : Prop := fnExactChoiceSideUptoRow.holds Try.pinned (OpenSpec.upto fnExactChoiceSideSpec)

/-- 'laws.FnExactChoiceMistakes', WHERE WHAT IT READS IS OF BULK AT MOST 1048576: true; the input reads as it did. -/
def fnExactChoiceMistakesUptoRow : OpenClaim := { program := "ythohnnobahcdpaa", sum := "17d1f5994399a94be0992697fb1180e600f2d93c8a6ccdb8a1083c91da82e244", func := "loop.example/g01135/laws.FnExactChoiceMistakes", spec := "fnExactChoiceMistakes", unfollowed := true, recurses := true, apart := false, narrowed := true }
def FnExactChoiceMistakesUptoSaid : Prop := fnExactChoiceMistakesUptoRow.holds Try.pinned (OpenSpec.upto fnExactChoiceMistakesSpec)

/-- 'laws.FnExactUniformHefts', WHERE WHAT IT READS IS OF BULK AT MOST 1048576: true; the input reads as it did. -/
def fnExactUniformHeftsUptoRow : OpenClaim := { program := "ythohnnobahcdpaa", sum := "17d1f5994399a94be0992697fb1180e600f2d93c8a6ccdb8a1083c91da82e244", func := "loop.example/g01135/laws.FnExactUniformHefts", spec := "fnExactUniformHefts", apart := false, narrowed := true }
def FnExactUniformHeftsUptoSaid : Prop := fnExactUniformHeftsUptoRow.holds Try.pinned (OpenSpec.upto fnExactUniformHeftsSpec)

end Rows
end Go.Proofs.Ythohnnobahcdpaa
